/-
  slices.ContainsFunc, slices.Clone, cmp.Compare and slices.SortFunc, as sets.Of calls them.
-/
import Derived.Test.YtdmpmkcigjkilaaSWrong
import Derived.Shelf.SlSortCmp.NoneTotal
import Derived.Shelf.SlGeneric
import Derived.Shelf.Lay
import Derived.Ground.SlsfProg
namespace Go.Proofs
open Go.Shelf Go.RowKit Go.Lib Go.Sort
shelf_lay_g SlLaysF0.n6 Slsf 6 at Try 85 as Try.sortSp
end Go.Proofs
namespace Go.Proofs.Ytdmpmkcigjkilaa
open Go.RowKit Go.Lib Go.Sort

set_option maxHeartbeats 1000000 in
theorem indexf_any (w : World) (v : Value) (l : List S.Sp) (R : S.Rd w v l) (hl : l.length ≤ 17592186044160) :
    Calls Try.prog 113 #[v, .func (.func 84) #[] #[]] w fun e w' => ∃ i : Int, e = .returned (.int .i64 i) ∧ decide (0 ≤ i) = l.any S.bad ∧ Below w.heap.size w w' := by
  obtain ⟨ao, cap, rfl, hn, hc⟩ := R
  have eg : ∀ args w, (callFunc 84 args).run Try.prog w = .ok (.enter 84 args) w := enters_of Try.func84 (by kernel_rfl) rfl
  go_enter Try.func113, Try.ntmps113
  go_wp2
  go_loopw [8] (fun i wr => ∃ k : Nat, k ≤ l.length ∧ i = .int .i64 k ∧ Hid ((l.take k).any S.bad = false) ∧ Hid (Below w.heap.size w wr)) (fun i _ => l.length - (intOf i).toNat)
  case atStart => exact ⟨0, Nat.zero_le _, rfl, by show (l.take 0).any S.bad = false; simp, Below.refl _ w⟩
  case round =>
    obtain ⟨k, hk, rfl, HW, HB⟩ := hrel
    by_cases hlt : k < l.length
    · obtain ⟨b, off, rfl, hcell⟩ := hc (by intro h; subst h; simp at hlt)
      obtain ⟨x, hx⟩ : ∃ x, l[k]? = some x := ⟨l[k], by simp [hlt]⟩
      have c0 := hcell k x hx
      have hb := L.block_lt c0.1
      have c1 := c0.1
      have c2 := c0.2
      rw [← HB.out.cell (p := ⟨b, _, none⟩) hb] at c1 c2
      have HX : Hid (l[k]? = some x) := hx
      have hsz := HB.out.size
      have hob := outside_any wr x
      obtain ⟨x1, x2⟩ := x
      simp only at c1 c2 hob
      clear c0 hx hcell hc
      cases hbad : S.bad (x1, x2) with
      | true =>
        rw [hbad] at hob
        have HR : Hid (S.bad (x1, x2) = true) := hbad
        clear hbad
        go_wp2_with fail
        refine hob.mono ?_
        rintro e w1 ⟨rfl, HB1⟩
        go_wp2
        go_ret
        refine ⟨k, rfl, ?_, HB.out.trans (HB1.mono hsz)⟩
        have : l.any S.bad = true := List.any_eq_true.2 ⟨_, List.mem_of_getElem? HX.out, HR.out⟩
        rw [this]; simp
      | false =>
        rw [hbad] at hob
        have HR : Hid (S.bad (x1, x2) = false) := hbad
        clear hbad
        go_wp2_with fail
        refine hob.mono ?_
        rintro e w1 ⟨rfl, HB1⟩
        go_wp2
        go_roundw
        case rel =>
          refine ⟨k + 1, by omega, by go_num, ?_, HB.out.trans (HB1.mono hsz)⟩
          show (l.take (k + 1)).any S.bad = false
          rw [List.take_add_one, HX.out, List.any_append, HW.out]
          simp [HR.out]
        case measure => simp [intOf]; omega
    · go_wp2
      go_ret
      refine ⟨-1, rfl, ?_, HB.out⟩
      have h := HW.out
      rw [List.take_of_length_le (by omega)] at h
      rw [h]
      rfl

set_option maxHeartbeats 400000 in
theorem containsf_any (w : World) (v : Value) (l : List S.Sp) (R : S.Rd w v l) (hl : l.length ≤ 17592186044160) :
    Calls Try.prog 83 #[v, .func (.func 84) #[] #[]] w fun e w' => e = .returned (.bool (l.any S.bad)) ∧ Below w.heap.size w w' := by
  have h := indexf_any w v l R hl
  obtain ⟨aa, ca, rfl⟩ := R.len
  clear R
  go_enter Try.func83, Try.ntmps83
  go_wp2_with fail
  refine h.mono ?_
  rintro e w1 ⟨i, rfl, hi, hb⟩
  have HI : Hid _ := hi
  clear hi
  go_wp2
  go_ret
  exact ⟨L.ret_bool HI.out, hb⟩

set_option maxHeartbeats 1000000 in
theorem clone_any (w : World) (v : Value) (l : List S.Sp) (R : S.Rd w v l) (hl : l.length ≤ 17592186044160) :
    Calls Try.prog 66 #[v] w fun e w' => ∃ v', e = .returned v' ∧ w'.ownsRow w.heap.size 99 2 v' l.length (S.cellsOf l) ∧ Below w.heap.size w w' := by
  obtain ⟨ao, cap, rfl, hn, hc⟩ := R
  obtain ⟨i0, hi, hz0, hz1, hz2⟩ := info_parts Try.infoSp
  have q22 : ∀ (w : World) (a : Option Addr) (n c n' c' : Nat), (binOp .eql 23 (.slice a n c) (.slice none n' c')).run Try.prog w = .ok (.bool a.isNone) w := fun w a n c n' c' => Lib.run_eql_slice_nil w _ _ a n c n' c' Try.underlying23
  cases ao with
  | none =>
    have h0 : l = [] := by
      cases l with
      | nil => rfl
      | cons z zs => obtain ⟨b, off, h, _⟩ := hc (by simp); simp at h
    subst h0
    have := hn rfl
    subst this
    clear hc
    go_enter Try.func66, Try.ntmps66
    go_wp2
    go_ret
    exact ⟨_, rfl, World.ownsRow_nil _ _ _ _, Below.refl _ _⟩
  | some ad =>
    have HC : Hid (∀ j u, (S.cellsOf l)[j]? = some u → w.cell? (ad.add j) = some u) := by
      intro j u hj
      obtain ⟨i, x, hx, hor⟩ := S.cellsOf_inv hj
      obtain ⟨b, off, hao, hcell⟩ := hc (by intro h; subst h; simp at hx)
      simp at hao
      subst hao
      have h1 := hcell i x hx
      rw [L.addr_add]
      rcases hor with ⟨rfl, rfl⟩ | ⟨rfl, rfl⟩
      · exact h1.1
      · exact h1.2
    clear hc
    have OW : Hid ((w.alloc (.cells #[] 99)).ownsRow w.heap.size 99 2 (.slice (some ⟨w.heap.size, 0, none⟩) 0 0) 0 []) := World.ownsRow_made w #[] 0 (Nat.le_refl _) (Nat.zero_le _) (by simp)
    go_enter Try.func66, Try.ntmps66
    go_wp2_with (at_builtin; go_must (refine wpList_append_own _ rfl _ _ 23 rfl w.heap.size 99 i0 (.agg #[.int .i32 0, .int .i32 0]) 2 8 Try.underlying23 hi hz0 hz1 hz2 rfl (by decide) _ _ _ rfl OW.out ad l.length cap (S.cellsOf l) rfl (S.cellsOf_length l) (fun j u hj => Lib.cell?_alloc_some _ (HC.out j u hj)) (fun u hu => S.cellsOf_one hu) (by unfold maxLen; omega) (by omega) (by simp) ?_; intro v' w3 hown' hgrow3 hnil3))
    go_ret
    refine ⟨v', rfl, by simpa using hown', ?_⟩
    exact ((Below.refl _ w).alloc (Nat.le_refl _) _).grown hgrow3 (by simp) (fun k hk => (OW.out.lt k hk).1)

set_option maxHeartbeats 400000 in
theorem isnan_any (w : World) (x : Int) : Calls Try.prog 116 #[.int .i32 x] w fun e w' => e = .returned (.bool false) ∧ w' = w := by
  go_enter Try.func116, Try.ntmps116
  go_wp2
  go_ret
  exact ⟨by simp, rfl⟩

def cmpf (x y : S.Sp) : Int := if x.1 < y.1 then -1 else if y.1 < x.1 then 1 else 0

set_option maxHeartbeats 400000 in
theorem compare_any (w : World) (x y : Int) : Calls Try.prog 87 #[.int .i32 x, .int .i32 y] w fun e w' => e = .returned (.int .i64 (if x < y then -1 else if y < x then 1 else 0)) ∧ w' = w := by
  by_cases h1 : x < y
  · rw [if_pos h1]
    go_enter Try.func87, Try.ntmps87
    go_wp2_with (go_at_call 116; refine (isnan_any _ _).mono ?_; rintro e w' ⟨rfl, rfl⟩)
    go_ret
    exact ⟨rfl, rfl⟩
  · rw [if_neg h1]
    by_cases h2 : y < x
    · rw [if_pos h2]
      go_enter Try.func87, Try.ntmps87
      go_wp2_with (go_at_call 116; refine (isnan_any _ _).mono ?_; rintro e w' ⟨rfl, rfl⟩)
      go_ret
      exact ⟨rfl, rfl⟩
    · rw [if_neg h2]
      go_enter Try.func87, Try.ntmps87
      go_wp2_with (go_at_call 116; refine (isnan_any _ _).mono ?_; rintro e w' ⟨rfl, rfl⟩)
      go_ret
      exact ⟨rfl, rfl⟩

set_option maxHeartbeats 400000 in
theorem of1_any (W : World) (x1 x2 y1 y2 : Int) : Calls Try.prog 86 #[.agg #[.int .i32 x1, .int .i32 x2], .agg #[.int .i32 y1, .int .i32 y2]] W fun e w' => e = .returned (.int .i64 (cmpf (x1, x2) (y1, y2))) ∧ ∃ q os', w' = grow (W.drewN q) os' := by
  have hcon := fun W' => compare_any W' x1 y1
  change ∀ W', Calls Try.prog 87 _ _ (fun e w' => e = .returned (.int .i64 (cmpf (x1, x2) (y1, y2))) ∧ w' = W') at hcon
  generalize cmpf (x1, x2) (y1, y2) = r at hcon ⊢
  go_enter Try.func86, Try.ntmps86
  go_wp2_with (go_at_call 87; refine (hcon _).mono ?_; rintro e w' ⟨rfl, rfl⟩)
  go_ret
  exact ⟨rfl, 0, _, by rw [alloc_eq_grow, alloc_eq_grow, grow_grow]; rfl⟩

theorem ltOf_cmpf (x y : S.Sp) : ltOf cmpf x y = decide (x.1 < y.1) := by
  unfold ltOf cmpf
  by_cases h1 : x.1 < y.1
  · simp [h1]
  · by_cases h2 : y.1 < x.1 <;> simp [h1, h2]

theorem swo_cmpf : SWO (ltOf cmpf) where
  irrefl x := by rw [ltOf_cmpf]; simp
  trans x y z h1 h2 := by rw [ltOf_cmpf] at *; simp at *; omega
  ntrans x y z h1 h2 := by rw [ltOf_cmpf] at *; simp at *; omega

end Go.Proofs.Ytdmpmkcigjkilaa
