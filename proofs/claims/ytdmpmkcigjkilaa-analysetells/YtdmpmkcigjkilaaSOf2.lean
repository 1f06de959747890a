/-
  What slices.SortFunc makes of a row of spans, and what sets.Of tells of any spans.
-/
import Derived.Test.YtdmpmkcigjkilaaSOf1
import Derived.Test.YtdmpmkcigjkilaaSFew
import Derived.Test.YtdmpmkcigjkilaaSJoin
namespace Go.Proofs.Ytdmpmkcigjkilaa
open Go.RowKit Go.Lib Go.Sort

theorem memb_takeO {l : List S.Sp} {k : Nat} {x : S.Sp} {r : Int} (hx : l[k]? = some x) : S.memb (l.take (k + 1)) r = (S.memb (l.take k) r || (decide (x.1 ≤ r) && decide (r ≤ x.2))) := by
  rw [List.take_add_one, hx, S.memb_append]; simp [S.memb_cons, S.memb_nil]

theorem holds_of_owns {w : World} {B g cap : Nat} {l : List S.Sp} (own : w.ownsRow B 99 2 (.slice (some ⟨g, 0, none⟩) l.length cap) l.length (S.cellsOf l)) : HoldsK S.enc2 2 w g 0 l.toArray := by
  intro t ht
  rw [size_flatK] at ht
  simp only [List.size_toArray] at ht
  have h1 := World.ownsRow.cellAt own t (by omega)
  refine ⟨?_, ?_⟩
  · rw [Nat.zero_add, h1, get_flatK _ _ _ _ (by simpa using ht)]
    obtain ⟨x, hx⟩ : ∃ x, l[t / 2]? = some x := ⟨l[t / 2]'(by omega), by simp [show t / 2 < l.length by omega]⟩
    have hx2 : l.toArray[t / 2]! = x := by
      rw [List.getElem!_toArray, List.getElem!_eq_getElem?_getD, hx]; rfl
    have hg := S.cellsOf_get hx
    rw [hx2]
    rcases Nat.mod_two_eq_zero_or_one t with h0 | h0
    · rw [h0, show t = t / 2 * 2 by omega, hg.1]; rfl
    · rw [h0, show t = t / 2 * 2 + 1 by omega, hg.2]; rfl
  · rw [Nat.zero_add]; exact World.ownsRow.frozenAt own t

theorem rd_of_holds {w : World} {g cap : Nat} {d : Array S.Sp} (h : HoldsK S.enc2 2 w g 0 d) : S.Rd w (.slice (some ⟨g, 0, none⟩) d.toList.length cap) d.toList := by
  refine ⟨_, cap, rfl, fun h => by simp at h, fun _ => ⟨g, 0, rfl, fun j x hj => ?_⟩⟩
  have hlt : j < d.size := by have := (List.getElem?_eq_some_iff.1 hj).1; simpa using this
  have hx : d[j]! = x := by
    rw [getElem!_pos d j hlt]
    rw [Array.getElem?_toList, Array.getElem?_eq_getElem hlt] at hj
    exact Option.some.inj hj
  have c1 := (h.cell (i := j) (c := 0) hlt (by omega)).1
  have c2 := (h.cell (i := j) (c := 1) hlt (by omega)).1
  rw [hx] at c1 c2
  exact ⟨c1, c2⟩

theorem sort_grown (w : World) (g n : Nat) (d : Array S.Sp) (os : Array Obj) : w.grownBy (sortWorldK S.enc2 2 w g 0 n d os) (some g) := by
  refine ⟨rfl, rfl, rfl, ?_, fun k hk hne => ?_⟩
  · simp [sortWorldK, putRowK, Sort.ahead, grow, putRow, mapBlock]
  · have hg : g ≠ k := fun e => hne (by rw [e])
    show ((mapBlock (Sort.ahead w n) g _).heap ++ os)[k]? = w.heap[k]?
    rw [Array.getElem?_append_left (by simp [mapBlock, Sort.ahead]; exact hk)]
    simp [mapBlock, Sort.ahead, Array.getElem?_modify, hg]

set_option maxHeartbeats 400000 in
theorem sortf_any (w : World) (B : Nat) (v : Value) (l : List S.Sp) (own : w.ownsRow B 99 2 v l.length (S.cellsOf l)) (hl : l.length ≤ 17592186044160) :
    Calls Try.prog 85 #[v, .func (.func 86) #[] #[]] w fun e w' => e = .returned (.tuple #[]) ∧ ∃ l' : List S.Sp, l'.Perm l ∧ l'.Pairwise (fun x y => x.1 ≤ y.1) ∧ S.Rd w' v l' ∧ w.grownBy w' v.ownBlock := by
  rcases own.2 with ⟨rfl, h0⟩ | ⟨g, cap, cur, rfl, hg⟩
  · have : l = [] := by simpa using h0
    subst this
    have h := AnyF.slices_SortFunc_none Try.sortSp none 0 (.func (.func 86) #[] #[]) w
    change Calls Try.prog 85 _ _ _ at h
    refine h.mono ?_
    rintro e w' ⟨rfl, rfl⟩
    exact ⟨rfl, [], List.Perm.refl _, List.Pairwise.nil, S.Rd.nil _, S.grown_refl _ _⟩
  · have hgl : g < w.heap.size := lt_of_block hg.2.1
    have eg : ∀ args w, (callFunc 86 args).run Try.prog w = .ok (.enter 86 args) w := enters_of Try.func86 (by kernel_rfl) rfl
    have hH := holds_of_owns own
    have h := AnyQ.slices_SortFunc Try.sortSp 2 Try.isAgg99 Try.sizeOf99 S.enc2 (fun _ => rfl) (fun x v hv => by simp [S.enc2] at hv; rcases hv with rfl | rfl <;> rfl) cmpf swo_cmpf 86 #[] g 0 cap l.toArray w eg
      (fun _ _ _ _ x y => of1_any _ x.1 x.2 y.1 y.2) hH hgl (by simp; omega)
    change Calls Try.prog 85 _ _ _ at h
    rw [List.size_toArray] at h
    refine h.mono ?_
    rintro e w' ⟨rfl, d', n, os, hp, hs, rfl⟩
    have hsz : d'.size = l.length := by have := hp.1; simpa using this
    have hH2 : HoldsK S.enc2 2 (sortWorldK S.enc2 2 w g 0 n d' os) g 0 d' :=
      holdsK_grow S.enc2 2 _ os g 0 d' (by rw [size_putRowK]; exact hgl) (holdsK_putRowK S.enc2 2 _ g 0 l.toArray d' hH (by simpa using hsz))
    refine ⟨rfl, d'.toList, ?_, ?_, ?_, sort_grown w g n d' os⟩
    · have := hp.2.2
      have h2 : (List.take l.length d'.toList).Perm l := by simpa using this
      rwa [List.take_of_length_le (by simp [hsz])] at h2
    · rw [List.pairwise_iff_getElem]
      intro i j hi hj hij
      have := hs i j (Nat.zero_le _) hij (by simpa [hsz] using hj)
      rw [ltOf_cmpf] at this
      simp only [Array.length_toList] at hi hj
      rw [getElem!_pos d' j hj, getElem!_pos d' i hi] at this
      simp at this
      simpa using this
    · have := rd_of_holds (cap := cap) hH2
      rw [Array.length_toList, hsz] at this
      exact this

theorem memb_perm {l m : List S.Sp} (h : l.Perm m) (r : Int) : S.memb l r = S.memb m r := by
  apply S.bool_eq
  rw [S.memb_iff, S.memb_iff]
  exact ⟨fun ⟨x, hx, h1⟩ => ⟨x, h.mem_iff.1 hx, h1⟩, fun ⟨x, hx, h1⟩ => ⟨x, h.mem_iff.2 hx, h1⟩⟩

/-- spans that rise are joined one by one -/
structure Joined (l' : List S.Sp) (k : Nat) (s : List S.Sp) : Prop where
  nf : S.Nf 0 s
  mem : ∀ q, S.memb s q = S.memb (l'.take k) q
  last : ∀ p, s.getLast? = some p → ∃ x ∈ l'.take k, p.1 = x.1
  len : s.length ≤ k

theorem Joined.step {l' : List S.Sp} {k : Nat} {s : List S.Sp} {x : S.Sp} (h : Joined l' k s) (hs : l'.Pairwise (fun x y => x.1 ≤ y.1)) (hx : l'[k]? = some x) (hb : S.bad x = false) : Joined l' (k + 1) (S.joinF s x) := by
  have hok := S.bad_false.1 hb
  have hlt := (List.getElem?_eq_some_iff.1 hx).1
  have hj := S.joinF_nf (x := x) h.nf hok.1 hok.2.1 hok.2.2 fun p hp => by
    obtain ⟨y, hy, he⟩ := h.last p hp
    rw [he]
    obtain ⟨i, hi⟩ := List.getElem?_of_mem hy
    rw [List.getElem?_take] at hi
    split at hi
    · rename_i hik
      have hil := (List.getElem?_eq_some_iff.1 hi).1
      have := (List.pairwise_iff_getElem.1 hs) i k hil hlt hik
      rw [List.getElem?_eq_getElem hil] at hi
      rw [List.getElem?_eq_getElem hlt] at hx
      cases hi; cases hx
      exact this
    · cases hi
  refine ⟨hj.1, fun q => ?_, fun p hp => ?_, ?_⟩
  · rw [hj.2, h.mem, memb_takeO hx]
  · obtain ⟨q, hq, hor⟩ := S.joinF_last (s := s) (x := x)
    rw [hp] at hq
    cases hq
    rw [List.take_add_one, hx]
    rcases hor with h1 | ⟨p', hp', h1⟩
    · exact ⟨x, by simp, h1⟩
    · obtain ⟨y, hy, he⟩ := h.last p' hp'
      exact ⟨y, by simp [hy], h1.trans he⟩
  · have := S.joinF_length s x
    have := h.len
    omega

set_option maxHeartbeats 1000000 in
theorem of_any (w : World) (v : Value) (l : List S.Sp) (R : S.Rd w v l) (hl : l.length ≤ 17592186044160) :
    Calls Try.prog 51 #[v] w (Tells w (if l.any S.bad = true then 3 else 0) 0 (S.memb l)) := by
  have hcf := containsf_any w v l R hl
  obtain ⟨aa, ca, rfl⟩ := R.len
  cases hbad : l.any S.bad with
  | true =>
    rw [hbad] at hcf
    rw [if_pos rfl]
    clear hbad
    go_enter Try.func51, Try.ntmps51
    go_wp2_with fail
    refine hcf.mono ?_
    clear hcf R
    rintro e w1 ⟨rfl, hb1⟩
    go_wp2
    go_ret2
    exact ⟨_, by unfold S.resE; simp; rfl, by unfold S.resL; simp; exact S.Rd.nil _, hb1, fun h => absurd h (by decide)⟩
  | false =>
    rw [hbad] at hcf
    have HBAD : Hid (l.any S.bad = false) := hbad
    clear hbad
    have HR : Hid (S.Rd w (.slice aa l.length ca) l) := R
    clear R
    simp only [Bool.false_eq_true, if_false]
    go_enter Try.func51, Try.ntmps51
    go_wp2_with fail
    refine hcf.mono ?_
    clear hcf
    rintro e w1 ⟨rfl, hb1⟩
    have hcl := clone_any w1 _ l (HR.out.below hb1 (Nat.le_refl _)) hl
    have BW1 : Hid (Below w.heap.size w w1) := hb1
    have hsz1 := hb1.size
    clear hb1
    go_wp2_with fail
    refine hcl.mono ?_
    clear hcl
    rintro e w2 ⟨v2, rfl, own2, hb2⟩
    have hso := sortf_any w2 _ v2 l own2 hl
    have hv2 : ∃ ao cap, v2 = .slice ao l.length cap := by
      rcases own2.2 with ⟨h, h0⟩ | ⟨g, cap, cur, h, _⟩
      · exact ⟨none, 0, by rw [h, h0]⟩
      · exact ⟨_, _, h⟩
    have BW2 : Hid (Below w.heap.size w w2) := BW1.out.trans (hb2.mono hsz1)
    have hsz2 := hb2.size
    have HO2 : Hid (∀ k, v2.ownBlock = some k → w1.heap.size ≤ k ∧ k < w2.heap.size) := fun k hk => own2.lt k hk
    clear hb2 own2
    obtain ⟨ao, cap, rfl⟩ := hv2
    go_wp2_with fail
    refine hso.mono ?_
    clear hso
    rintro e w3 ⟨rfl, l', hperm, hsort, R3, G3⟩
    have BW3 : Hid (Below w.heap.size w w3) := Below.grown BW2.out G3 (by omega) (fun k hk => by have := HO2.out k hk; omega)
    have hl' : l'.length = l.length := hperm.length_eq
    have HP : Hid (l'.Perm l) := hperm
    have HS : Hid (l'.Pairwise (fun x y => x.1 ≤ y.1)) := hsort
    have HR3 : Hid (S.Rd w3 (.slice ao l.length cap) l') := R3
    have hsz3 := G3.size
    clear G3 R3 hsort hperm
    obtain ⟨ao', cap', he, _, hc⟩ := HR3.out
    simp only [Value.slice.injEq] at he
    obtain ⟨rfl, _, rfl⟩ := he
    have HL : Hid (l'.length = l.length) := hl'
    clear hl'
    go_wp2
    go_loopw [5, 16] (fun vo i wr => ∃ (k : Nat) (s : List S.Sp), k ≤ l.length ∧ i = .int .i64 k ∧ Hid (wr.ownsRow w3.heap.size 99 2 vo s.length (S.cellsOf s)) ∧ Hid (Joined l' k s) ∧ Hid (Below w3.heap.size w3 wr)) (fun _ i _ => l.length - (intOf i).toNat)
    case atStart => exact ⟨0, [], Nat.zero_le _, rfl, World.ownsRow_nil _ _ _ _, ⟨trivial, fun q => by simp, fun p hp => by simp at hp, by simp⟩, Below.refl _ _⟩
    case round =>
      obtain ⟨k, s, hk, rfl, HO, HJ, HB⟩ := hrel
      have hsr := HB.out.size
      by_cases hlt : k < l.length
      · have hlt' : k < l'.length := by rw [HL.out]; exact hlt
        obtain ⟨b, off, rfl, hcell⟩ := hc (by intro h; subst h; simp at hlt')
        obtain ⟨x, hx⟩ : ∃ x, l'[k]? = some x := ⟨l'[k], by simp [hlt']⟩
        clear hlt'
        have c0 := hcell k x hx
        have hb := L.block_lt c0.1
        have c1 := c0.1
        have c2 := c0.2
        rw [← HB.out.cell (p := ⟨b, _, none⟩) hb] at c1 c2
        have hbx : S.bad x = false := by
          cases h : S.bad x with
          | false => rfl
          | true =>
            have : l.any S.bad = true := List.any_eq_true.2 ⟨x, HP.out.mem_iff.1 (List.mem_of_getElem? hx), h⟩
            rw [HBAD.out] at this; cases this
        have hok := S.bad_false.1 hbx
        have HJ2 : Hid (Joined l' (k + 1) (S.joinF s x)) := HJ.out.step HS.out hx hbx
        obtain ⟨x1, x2⟩ := x
        have HOa : Hid (∀ o, (wr.alloc o).ownsRow w3.heap.size 99 2 _ s.length (S.cellsOf s)) := fun o => HO.out.alloc o
        have hjo := join_any (wr.alloc (.cells #[.int .i32 x1, .int .i32 x2] 99)) w3.heap.size _ s (x1, x2) (HOa.out _) (by simp; omega) (fun p hp => by have := HJ.out.nf.mem hp; omega) (by have := HJ.out.len; omega) (by simp only at hok ⊢; omega)
        have HB2 : Hid (∀ o, Below w3.heap.size w3 (wr.alloc o)) := fun o => HB.out.alloc hsr o
        simp only at c1 c2
        clear c0 hx hcell hbx hc HJ
        go_wp2_with fail
        refine hjo.mono ?_
        clear hjo
        rintro e w4 ⟨v4, rfl, own4, G4⟩
        have HO4 : Hid _ := own4
        have HB4 : Hid (Below w3.heap.size w3 w4) := Below.grown (HB2.out _) G4 (by simp; omega) (fun j hj => ((HOa.out (.cells #[.int .i32 x1, .int .i32 x2] 99)).lt j hj).1)
        clear own4 G4
        go_wp2
        go_roundw
        case rel => exact ⟨k + 1, _, by omega, by go_num, HO4, HJ2, HB4⟩
        case measure => simp [intOf]; omega
      · have hkl : k = l'.length := by rw [HL.out]; omega
        have hfew := few_any wr _ s (S.Rd.of_owns HO.out) (by have := HJ.out.len; omega)
        have HIS : Hid (S.Is (S.memb l) s) := ⟨HJ.out.nf, fun q => by rw [HJ.out.mem, hkl, List.take_length, memb_perm HP.out]⟩
        clear hkl
        generalize hfe : S.fewE s = fe at hfew ⊢
        have HFE : Hid (S.fewE s = fe) := hfe
        clear hfe
        go_wp2_with fail
        refine hfew.mono ?_
        clear hfew
        rintro e w9 ⟨v9, rfl, R9, rfl⟩
        have HR9 : Hid (S.Rd w9 v9 (S.fewL s)) := R9
        clear R9
        go_wp2
        go_ret2
        refine ⟨v9, ?_, ?_, BW3.out.trans (HB.out.mono (by omega)), fun _ _ => ⟨s, HIS.out⟩⟩
        · unfold S.resE
          rw [S.nf_eq HIS.out, ← HFE.out]
          simp
        · unfold S.resL
          rw [S.nf_eq HIS.out]
          simpa using HR9.out

end Go.Proofs.Ytdmpmkcigjkilaa
