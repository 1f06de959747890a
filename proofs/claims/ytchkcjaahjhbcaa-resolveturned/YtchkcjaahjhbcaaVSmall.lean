/-
  The small functions of package resolve, and slices.Clone of spans.
-/
import Derived.Test.YtchkcjaahjhbcaaVLib
import Derived.Test.YtchkcjaahjhbcaaSWrong
namespace Go.Proofs.Ytchkcjaahjhbcaa
open Go.RowKit Go.Lib
set_option maxRecDepth 20000
set_option linter.unusedSimpArgs false
set_option linter.unusedVariables false

theorem Try.vinfoSp : (Try.prog.info? 71).map (fun i => (i.zero, i.size, i.bytes)) = some (some (.agg #[.int .i32 0, .int .i32 0]), 2, 8) := by kernel_rfl
theorem Try.vinfoI32 : (Try.prog.info? 21).map (fun i => (i.zero, i.size, i.bytes)) = some (some (.int .i32 0), 1, 4) := by kernel_rfl

set_option maxHeartbeats 1000000 in
theorem vclone_any (w : World) (v : Value) (l : List S.Sp) (R : S.Rd w v l) (hl : l.length ≤ 17592186044160) :
    Calls Try.prog 55 #[v] w fun e w' => ∃ v', e = .returned v' ∧ w'.ownsRow w.heap.size 71 2 v' l.length (S.cellsOf l) ∧ Below w.heap.size w w' := by
  obtain ⟨ao, cap, rfl, hn, hc⟩ := R
  obtain ⟨i0, hi, hz0, hz1, hz2⟩ := info_parts Try.vinfoSp
  have q22 : ∀ (w : World) (a : Option Addr) (n c n' c' : Nat), (binOp .eql 40 (.slice a n c) (.slice none n' c')).run Try.prog w = .ok (.bool a.isNone) w := fun w a n c n' c' => Lib.run_eql_slice_nil w _ _ a n c n' c' Try.underlying40
  cases ao with
  | none =>
    have h0 : l = [] := by
      cases l with
      | nil => rfl
      | cons z zs => obtain ⟨b, off, h, _⟩ := hc (by simp); simp at h
    subst h0
    have := hn rfl
    subst this
    clear hc
    go_enter Try.func55, Try.ntmps55
    go_wp2
    go_ret
    exact ⟨_, rfl, World.ownsRow_nil _ _ _ _, Below.refl _ _⟩
  | some ad =>
    have HC : Hid (∀ j u, (S.cellsOf l)[j]? = some u → w.cell? (ad.add j) = some u) := by
      intro j u hj
      obtain ⟨i, x, hx, hor⟩ := S.cellsOf_inv hj
      obtain ⟨b, off, hao, hcell⟩ := hc (by intro h; subst h; simp at hx)
      simp at hao
      subst hao
      have h1 := hcell i x hx
      rw [L.addr_add]
      rcases hor with ⟨rfl, rfl⟩ | ⟨rfl, rfl⟩
      · exact h1.1
      · exact h1.2
    clear hc
    have OW : Hid ((w.alloc (.cells #[] 71)).ownsRow w.heap.size 71 2 (.slice (some ⟨w.heap.size, 0, none⟩) 0 0) 0 []) := World.ownsRow_made w #[] 0 (Nat.le_refl _) (Nat.zero_le _) (by simp)
    go_enter Try.func55, Try.ntmps55
    go_wp2_with (at_builtin; go_must (refine wpList_append_own _ rfl _ _ 40 rfl w.heap.size 71 i0 (.agg #[.int .i32 0, .int .i32 0]) 2 8 Try.underlying40 hi hz0 hz1 hz2 rfl (by decide) _ _ _ rfl OW.out ad l.length cap (S.cellsOf l) rfl (S.cellsOf_length l) (fun j u hj => Lib.cell?_alloc_some _ (HC.out j u hj)) (fun u hu => S.cellsOf_one hu) (by unfold maxLen; omega) (by omega) (by simp) ?_; intro v' w3 hown' hgrow3 hnil3))
    go_ret
    refine ⟨v', rfl, by simpa using hown', ?_⟩
    exact ((Below.refl _ w).alloc (Nat.le_refl _) _).grown hgrow3 (by simp) (fun k hk => (OW.out.lt k hk).1)


/-- the pass that goes the other way -/
def V.opp (s : ByteArray) : ByteArray := if (s.toList == [117, 112, 112, 101, 114]) = true then ⟨#[108, 111, 119, 101, 114]⟩ else if (s.toList == [108, 111, 119, 101, 114]) = true then ⟨#[117, 112, 112, 101, 114]⟩ else ⟨#[110, 117, 108, 108]⟩
def V.against (d : Int) : Int := if d = 1 then 2 else if d = 2 then 1 else d

set_option maxHeartbeats 400000 in
theorem opposite_any (w : World) (s : ByteArray) (hs : s.size ≤ 140737488355328) : Calls Try.prog 63 #[.string s] w fun e w' => e = .returned (.string (V.opp s)) ∧ w' = w := by
  cases h1 : (s.toList == [117, 112, 112, 101, 114]) with
  | true =>
    go_enter Try.func63, Try.ntmps63
    go_wp2
    go_ret
    exact ⟨by simp only [V.opp, h1, if_true]; rfl, rfl⟩
  | false =>
    cases h2 : (s.toList == [108, 111, 119, 101, 114]) with
    | true =>
      go_enter Try.func63, Try.ntmps63
      go_wp2
      go_ret
      exact ⟨by simp only [V.opp, h1, h2, if_true, Bool.false_eq_true, if_false]; rfl, rfl⟩
    | false =>
      go_enter Try.func63, Try.ntmps63
      go_wp2
      go_ret
      exact ⟨by simp only [V.opp, h1, h2, Bool.false_eq_true, if_false]; rfl, rfl⟩

set_option maxHeartbeats 400000 in
theorem against_any (w : World) (d : Int) : Calls Try.prog 64 #[.int .i64 d] w fun e w' => e = .returned (.int .i64 (V.against d)) ∧ w' = w := by
  by_cases h1 : d = 1
  · subst h1
    go_enter Try.func64, Try.ntmps64
    go_wp2
    go_ret
    exact ⟨by simp [V.against], rfl⟩
  · by_cases h2 : d = 2
    · subst h2
      go_enter Try.func64, Try.ntmps64
      go_wp2
      go_ret
      exact ⟨by simp [V.against], rfl⟩
    · go_enter Try.func64, Try.ntmps64
      go_wp2
      go_ret
      exact ⟨by simp [V.against, h1, h2], rfl⟩

set_option maxHeartbeats 400000 in
theorem itrune_any (w : World) (a b c d : Value) : Calls Try.prog 80 #[.agg #[a, b, c, d]] w fun e w' => e = .returned b ∧ w' = w.alloc (.cells #[a, b, c, d] 56) := by
  go_enter Try.func80, Try.ntmps80
  go_wp2
  go_ret
  exact ⟨rfl, rfl⟩

/-- an append to a row of one's own -/
theorem V.push {w W1 w3 : World} {e : TypeId} {c : Nat} {v v' : Value} {n : Nat} {xs ys : List Value} {o : Obj} (hbw : Below w.heap.size w W1) (hown : W1.ownsRow w.heap.size e c v n xs)
    (hown' : w3.ownsRow w.heap.size e c v' (n + 1) (xs ++ ys)) (hgrow : (W1.alloc o).grownBy w3 v.ownBlock) :
    Hid (w3.ownsRow w.heap.size e c v' (n + 1) (xs ++ ys) ∧ Below w.heap.size w w3) :=
  ⟨hown', Below.grown (hbw.alloc hbw.size _) hgrow (by have := hbw.size; simp; omega) (fun j hj => (hown.lt _ hj).1)⟩

set_option maxHeartbeats 2000000 in
theorem eachr_any (w : World) (v : Value) (l : List R.Item) (RR : R.Its w v l) (hl : l.length ≤ 1000) :
    Calls Try.prog 79 #[v, .func (.func 80) #[] #[]] w fun e w' => ∃ v', e = .returned v' ∧ w'.ownsRow w.heap.size 21 1 v' l.length (l.map fun x => Value.int .i32 x.rune) ∧ Below w.heap.size w w' := by
  have HR : Hid (R.Its w v l) := RR
  obtain ⟨ao, ca, rfl⟩ := RR.len
  clear RR
  obtain ⟨i0, hi, hz0, hz1, hz2⟩ := info_parts Try.vinfoI32
  go_enter Try.func79, Try.ntmps79
  go_wp2
  go_loopw [5, 10] (fun v i wr => ∃ k : Nat, k ≤ l.length ∧ i = .int .i64 k ∧ Hid (wr.ownsRow w.heap.size 21 1 v k ((l.take k).map fun x => Value.int .i32 x.rune) ∧ Below w.heap.size w wr)) (fun _ i _ => l.length - (intOf i).toNat)
  case atStart => exact ⟨0, Nat.zero_le _, rfl, World.ownsRow_nil _ _ _ _, Below.refl _ w⟩
  case round =>
    obtain ⟨k, hk, rfl, HB⟩ := hrel
    by_cases hlt : k < l.length
    · obtain ⟨x, hx⟩ : ∃ x, l[k]? = some x := ⟨l[k], by simp [hlt]⟩
      obtain ⟨ao', ca', e', hcs⟩ := HR.out.below HB.out.2
      cases e'
      obtain ⟨b, off, rfl, hcell⟩ := hcs (by intro h; subst h; simp at hlt)
      obtain ⟨c0, c1, c3, ⟨so, sc, c2, r2⟩, hf, _⟩ := hcell k x hx
      clear hcell hcs r2 hf
      have HX : Hid (l[k]? = some x) := hx
      clear hx
      obtain ⟨xk, xr, xs, xn⟩ := x
      simp only at c0 c1 c2 c3
      have hb1 : b < wr.heap.size := L.block_lt c0
      go_wp2_with fail
      refine (itrune_any _ _ _ _ _).mono ?_
      rintro e w5 ⟨rfl, hw5⟩
      have BW : Below wr.heap.size wr w5 := by rw [hw5]; exact ((Below.refl _ wr).alloc (Nat.le_refl _) _).alloc (by simp) _
      have HO : Hid (w5.ownsRow w.heap.size 21 1 u5 k ((l.take k).map fun x => Value.int .i32 x.rune)) := by rw [hw5]; exact (HB.out.1.alloc _).alloc _
      have HBW : Hid (Below w.heap.size w w5) := HB.out.2.trans (BW.mono HB.out.2.size)
      have hsz5 : w.heap.size ≤ w5.heap.size := HBW.out.size
      clear hw5 BW c0 c1 c2 c3 hb1
      go_wp2_with (at_builtin; go_must (refine wpList_append_own _ rfl _ _ 61 rfl w.heap.size 21 i0 (.int .i32 0) 1 4 Try.underlying61 hi hz0 hz1 hz2 rfl (by decide) _ _ _ rfl (HO.out.alloc _) ⟨w5.heap.size, 0, none⟩ 1 1 [.int .i32 xr] rfl rfl (cell_one_new _ _ _) (fun x hx => by simp at hx; subst hx; rfl) (by unfold maxLen; omega) (by omega) (by simp; omega) ?_; intro v' w3 hown' hgrow3 hnil3; have HX3 := V.push HBW.out HO.out hown' hgrow3; clear hown' hgrow3 hnil3))
      go_roundw
      case rel => exact ⟨k + 1, by omega, by go_num, by rw [List.take_add_one, HX.out]; simpa using HX3.out.1, HX3.out.2⟩
      case measure => simp [intOf]; omega
    · have hkl : k = l.length := by omega
      subst hkl
      go_wp2
      go_ret
      exact ⟨_, rfl, by simpa using HB.out.1, HB.out.2⟩

end Go.Proofs.Ytchkcjaahjhbcaa
