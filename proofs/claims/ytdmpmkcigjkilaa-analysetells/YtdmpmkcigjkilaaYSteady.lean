/-
  Whether what rules made stays: analyse.Steady.
-/
import Derived.Test.YtdmpmkcigjkilaaYFirsts
namespace Go.Proofs.Ytdmpmkcigjkilaa
open Go.RowKit Go.Shelf
set_option maxRecDepth 20000
set_option linter.unusedSimpArgs false
set_option linter.unusedVariables false

namespace K
noncomputable def steadyF (l : List Rule) : Bool × Int × Int := if (firstsF l).2.1 = 0 then (steadyB l, 0, 0) else (false, (firstsF l).2)
theorem firstsF_zero {l : List Rule} (h : (firstsF l).2.1 = 0) : (rulesF l).1 = 0 ∧ (firstsF l).2.2 = 0 ∧ S.resE 0 0 (S.memb (firstsL l)) = 0 ∧ (firstsF l).1 = S.resL 0 0 (S.memb (firstsL l)) := by
  unfold firstsF at h ⊢
  by_cases h0 : (rulesF l).1 = 0
  · rw [if_pos h0] at h ⊢; exact ⟨h0, rfl, h, rfl⟩
  · rw [if_neg h0] at h; exact absurd h h0
/-- a set that is told -/
theorem res_set {P : Int → Bool} (hex : ∃ s, S.Is P s) (h : S.resE 0 0 P = 0) : S.Is P (S.resL 0 0 P) ∧ (S.resL 0 0 P).length ≤ 200 := by
  have hi := S.nf_is hex
  unfold S.resE S.fewE at h
  unfold S.resL S.fewL
  simp only [ne_eq, not_true_eq_false, if_false] at h ⊢
  by_cases hl : 200 < (S.nf P).length
  · rw [if_pos hl] at h; exact absurd h (by decide)
  · rw [if_neg hl]; exact ⟨hi, by omega⟩
end K

set_option maxHeartbeats 1000000 in
theorem steady1_any (w : World) (bs : Nat) (v : Value) (s : List S.Sp) (R : S.Rd w v s) (N : S.Nf 0 s) (hl : s.length ≤ 200) (hc : w.cell? ⟨bs, 0, none⟩ = some v) (r : Int) :
    Calls Try.prog 52 (#[.int .i32 r] ++ #[.pointer (some ⟨bs, 0, none⟩)]) w fun e w' => e = .returned (.bool (S.memb s r)) ∧ Below w.heap.size w w' := by
  have h := has_any w v s r R N hl
  obtain ⟨aa, ca, rfl⟩ := R.len
  generalize S.memb s r = z at h
  clear R N
  show Calls Try.prog 52 #[.int .i32 r, .pointer (some ⟨bs, 0, none⟩)] w _
  go_enter Try.func52, Try.ntmps52
  go_wp2_with fail
  refine h.mono ?_
  rintro e w1 ⟨rfl, b1⟩
  have HB1 : Hid (Below w.heap.size w w1) := b1
  clear b1 h
  go_wp2
  go_ret
  exact ⟨rfl, HB1.out⟩

set_option maxHeartbeats 4000000 in
theorem steady2_any (w : World) (bf bs : Nat) (v : Value) (s : List S.Sp) (R : S.Rd w v s) (N : S.Nf 0 s) (hl : s.length ≤ 200) (hc : w.cell? ⟨bs, 0, none⟩ = some v) (hf : w.cell? ⟨bf, 0, none⟩ = some (.func (.func 52) #[] #[.pointer (some ⟨bs, 0, none⟩)])) (u : Value) (r : K.Rule) (Ru : K.RuIs w u r) :
    Calls Try.prog 54 (#[u] ++ #[.pointer (some ⟨bf, 0, none⟩)]) w fun e w' => e = .returned (.bool (K.stirsB (S.memb s) r)) ∧ Below w.heap.size w w' := by
  obtain ⟨bo, bc, so, sc, ao, ac, to, tc, rfl, h1, h2, h3, h4, h5, h6⟩ := Ru
  have HA : Hid (∀ o, Below w.heap.size w (w.alloc o)) := fun o => (Below.refl _ w).alloc (Nat.le_refl _) o
  have HAny : Hid (∀ o, Calls Try.prog 55 #[.slice to r.target.length tc, .func (.func 52) #[] #[.pointer (some ⟨bs, 0, none⟩)]] (w.alloc o) fun e w' => e = .returned (.bool (r.target.any (S.memb s))) ∧ Below (w.alloc o).heap.size (w.alloc o) w') := fun o =>
    rnAny_any (w.alloc o) _ r.target (h4.below (HA.out o) (Nat.le_refl _)) h5 52 _ (S.memb s) (enters_of Try.func52 (by kernel_rfl) rfl)
      (fun W x hW _ => steady1_any W bs v s ((R.below (HA.out o) (Nat.le_refl _)).below hW (Nat.le_refl _)) N hl (by rw [hW.cell (p := ⟨bs, 0, none⟩) (L.block_lt (K.alloc_cell hc o)), K.alloc_cell hc o]) x)
  have f2 := h2.few
  have f3 := h3.few
  have hfa : ∀ o, (w.alloc o).cell? ⟨bf, 0, none⟩ = some (.func (.func 52) #[] #[.pointer (some ⟨bs, 0, none⟩)]) := fun o => K.alloc_cell hf o
  have hbf := L.block_lt hf
  unfold K.stirsB
  generalize r.target.any (S.memb s) = z at HAny ⊢
  obtain ⟨st, fi, be, sou, af, ta, cu⟩ := r
  simp only at HAny h5 f2 f3 ⊢
  clear h1 h2 h3 h4 h6 R N hc hf
  show Calls Try.prog 54 #[_, .pointer (some ⟨bf, 0, none⟩)] w _
  by_cases q1 : sou.length = 1
  · by_cases q2 : 0 < af.length
    · go_enter Try.func54, Try.ntmps54
      go_wp2
      go_ret
      exact ⟨by simp [q2], HA.out _⟩
    · cases fi with
      | true =>
        go_enter Try.func54, Try.ntmps54
        go_wp2
        go_ret
        exact ⟨by simp, HA.out _⟩
      | false =>
        go_enter Try.func54, Try.ntmps54
        go_wp2_with fail
        refine (HAny.out _).mono ?_
        rintro e w1 ⟨rfl, b1⟩
        have HB1 : Hid (Below w.heap.size w w1) := (K.one_box b1).2.1
        clear b1 HAny hfa
        go_wp2
        go_ret
        exact ⟨by simp [q1, q2], HB1.out⟩
  · go_enter Try.func54, Try.ntmps54
    go_wp2
    go_ret
    exact ⟨by simp [q1], HA.out _⟩

set_option maxHeartbeats 4000000 in
theorem ySteady_any (w : World) (v : Value) (l : List K.Rule) (R0 : V.Rus w v l) :
    Calls Try.prog 24 #[v] w fun e w' => e = .returned (.tuple #[.bool (K.steadyF l).1, .agg #[.int .i64 (K.steadyF l).2.1, .int .i64 (K.steadyF l).2.2]]) ∧ Below w.heap.size w w' := by
  have hmf : ∀ (fn : Fn) (first cap : Array Value) (w : World), (Instr.makeFunc fn first cap).run Try.prog w = .ok (.func fn first cap) w := fun _ _ _ _ => rfl
  have HA : Hid (∀ o, Below w.heap.size w (w.alloc o)) := fun o => (Below.refl _ w).alloc (Nat.le_refl _) o
  have HC : Hid (∀ o, Calls Try.prog 23 #[v] (w.alloc o) fun e w' => ∃ v', e = .returned (.tuple #[v', .agg #[.int .i64 (K.firstsF l).2.1, .int .i64 (K.firstsF l).2.2]]) ∧ S.Rd w' v' (K.firstsF l).1 ∧ Below (w.alloc o).heap.size (w.alloc o) w' ∧ ((K.rulesF l).1 = 0 → ∃ s, S.Is (S.memb (K.firstsL l)) s)) := fun o => yFirsts_any _ _ l (R0.below (HA.out o))
  have HS : Hid (∀ X, Below w.heap.size w X → Calls Try.prog 19 #[v] X fun e w' => e = .returned (.bool (K.sureB l)) ∧ Below X.heap.size X w') := fun X hX => ySure_any X _ l (R0.below hX)
  have HR : Hid (V.Rus w v l) := R0
  have HZ : Hid ((K.firstsF l).2.1 = 0 → (K.rulesF l).1 = 0 ∧ (K.firstsF l).2.2 = 0 ∧ S.resE 0 0 (S.memb (K.firstsL l)) = 0 ∧ (K.firstsF l).1 = S.resL 0 0 (S.memb (K.firstsL l))) := K.firstsF_zero
  obtain ⟨ao, cap, rfl⟩ := R0.len
  obtain ⟨⟨o0, o1, o2⟩, HO⟩ : ∃ o, Hid (K.steadyF l = o) := ⟨_, rfl⟩
  rw [HO.out]
  unfold K.steadyF K.steadyB at HO
  obtain ⟨⟨fs, e1, e2⟩, he⟩ : ∃ o, K.firstsF l = o := ⟨_, rfl⟩
  rw [he] at HC HO HZ
  simp only at HC HO HZ ⊢
  clear he R0
  go_enter Try.func24, Try.ntmps24
  go_wp2_with fail
  refine (HC.out _).mono ?_
  rintro e w1 ⟨v1, rfl, R1, b1, hex⟩
  obtain ⟨a1, c1, rfl⟩ : ∃ a c, v1 = .slice a fs.length c := by obtain ⟨a, c, h, _⟩ := R1; exact ⟨a, c, h⟩
  obtain ⟨h1, B1, s1⟩ := K.one_box b1
  have HB1 : Hid (Below w.heap.size w w1) := B1
  have HX1 : Hid (w1.heap[w.heap.size]? = some (.cells #[.int .i64 0, .int .i64 0] 29)) := h1
  have HR1 : Hid (S.Rd w1 (.slice a1 fs.length c1) fs) := R1
  have HEx : Hid ((K.rulesF l).1 = 0 → ∃ s, S.Is (S.memb (K.firstsL l)) s) := hex
  clear b1 B1 HC R1 hex
  by_cases q : e1 = 0
  · subst q
    obtain ⟨z1, z2, z3, z4⟩ := HZ.out rfl
    subst z2
    have hset := K.res_set (HEx.out z1) z3
    rw [← z4] at hset
    have ho := HO.out
    rw [if_pos rfl] at ho
    simp only [Prod.mk.injEq] at ho
    obtain ⟨q0, q1, q2⟩ := ho
    subst q1 q2
    have HQ0 : Hid ((K.sureB l && !(l.any (K.stirsB (S.memb (K.firstsL l))))) = o0) := q0
    have hms : S.memb (K.firstsL l) = S.memb fs := funext fun q => (hset.1.2 q).symm
    rw [hms] at HQ0
    have HNf : Hid (S.Nf 0 fs ∧ fs.length ≤ 200) := ⟨hset.1.1, hset.2⟩
    clear HZ HEx HO z1 z3 z4 hset q0 hms
    obtain ⟨X, hX⟩ : ∃ X, X = ((w1.alloc (.cells #[.slice a1 fs.length c1] 23)).alloc (.cells #[.int .i64 0, .int .i64 0] 29)).alloc (.cells #[.func (.func 52) #[] #[.pointer (some ⟨w1.heap.size, 0, none⟩)]] 96) := ⟨_, rfl⟩
    have hx := K.three_new w1 (.cells #[.slice a1 fs.length c1] 23) (.cells #[.int .i64 0, .int .i64 0] 29) (.cells #[.func (.func 52) #[] #[.pointer (some ⟨w1.heap.size, 0, none⟩)]] 96)
    rw [← hX] at hx
    have hXB : Below w.heap.size w X := HB1.out.trans (hx.2.2.2.mono HB1.out.size)
    have HX : Hid (X.heap[w1.heap.size]? = some (.cells #[.slice a1 fs.length c1] 23) ∧ X.heap[w1.heap.size + 1 + 1]? = some (.cells #[.func (.func 52) #[] #[.pointer (some ⟨w1.heap.size, 0, none⟩)]] 96) ∧ Below w.heap.size w X ∧ Below w1.heap.size w1 X) := ⟨hx.1, hx.2.2.1, hXB, hx.2.2.2⟩
    have HXf : Hid (X.heap[w.heap.size]? = some (.cells #[.int .i64 0, .int .i64 0] 29)) := by
      show X.heap[w.heap.size]? = _
      rw [hx.2.2.2.block w.heap.size (by omega)]; exact HX1.out
    have HSx := HS.out X hXB
    have HAny : Hid (∀ W, Below X.heap.size X W → Calls Try.prog 46 #[.slice ao l.length cap, .func (.func 54) #[] #[.pointer (some ⟨w1.heap.size + 1 + 1, 0, none⟩)]] W fun e w' => e = .returned (.bool (l.any (K.stirsB (S.memb fs)))) ∧ Below W.heap.size W w') := fun W hW =>
      ruAny_any W _ l (HR.out.below (HX.out.2.2.1.trans (hW.mono HX.out.2.2.1.size))) 54 _ (K.stirsB (S.memb fs)) (enters_of Try.func54 (by kernel_rfl) rfl)
        (fun W' r u hW' _ hu => steady2_any W' (w1.heap.size + 1 + 1) w1.heap.size _ fs (((HR1.out.below HX.out.2.2.2 (Nat.le_refl _)).below hW (Nat.le_refl _)).below hW' (Nat.le_refl _)) HNf.out.1 HNf.out.2 (K.at_box (i := 0) (K.blk_below (K.blk_below HX.out.1 hW) hW') rfl) (K.at_box (i := 0) (K.blk_below (K.blk_below HX.out.2.1 hW) hW') rfl) u r hu)
    generalize K.sureB l = su at HSx HQ0
    generalize l.any (K.stirsB (S.memb fs)) = sa at HAny HQ0
    clear hx hXB HS
    go_wp2_with fail
    rw [← hX]
    refine HSx.mono ?_
    rintro e w2 ⟨rfl, b2⟩
    have h2 := K.blk_below HXf.out b2
    have HB2 : Hid (Below w.heap.size w w2 ∧ Below X.heap.size X w2 ∧ w2.heap[w.heap.size]? = some (.cells #[.int .i64 0, .int .i64 0] 29)) := ⟨HX.out.2.2.1.trans (b2.mono HX.out.2.2.1.size), b2, h2⟩
    clear b2 hX HSx h1
    cases su with
    | false =>
      have ho0 : false = o0 := HQ0.out
      subst ho0
      obtain ⟨x0, x1, f0, f1⟩ := K.box2 h2
      clear HAny HQ0 h2
      go_wp2
      refine bodyPost_ret (v := .tuple #[.bool false, .agg #[.int .i64 0, .int .i64 0]]) (by simp [results, Try.results24, go_sem, *]) rfl ?_
      exact ⟨rfl, (HB2.out.1.setCell (p := ⟨w.heap.size, 0, none⟩) (Nat.le_refl _) _).setCell (p := ⟨w.heap.size, 1, none⟩) (Nat.le_refl _) _⟩
    | true =>
      have ho0 : (!sa) = o0 := HQ0.out
      subst ho0
      have hA := HAny.out w2 HB2.out.2.1
      clear HAny HQ0 h2
      go_wp2_with fail
      refine hA.mono ?_
      rintro e w3 ⟨rfl, b3⟩
      obtain ⟨x0, x1, f0, f1⟩ := K.box2 (K.blk_below HB2.out.2.2 b3)
      have HB3 : Hid (Below w.heap.size w w3) := HB2.out.1.trans (b3.mono HB2.out.1.size)
      clear b3 hA
      cases sa with
      | false =>
        go_wp2
        refine bodyPost_ret (v := .tuple #[.bool true, .agg #[.int .i64 0, .int .i64 0]]) (by simp [results, Try.results24, go_sem, *]) rfl ?_
        exact ⟨rfl, (HB3.out.setCell (p := ⟨w.heap.size, 0, none⟩) (Nat.le_refl _) _).setCell (p := ⟨w.heap.size, 1, none⟩) (Nat.le_refl _) _⟩
      | true =>
        go_wp2
        refine bodyPost_ret (v := .tuple #[.bool false, .agg #[.int .i64 0, .int .i64 0]]) (by simp [results, Try.results24, go_sem, *]) rfl ?_
        exact ⟨rfl, (HB3.out.setCell (p := ⟨w.heap.size, 0, none⟩) (Nat.le_refl _) _).setCell (p := ⟨w.heap.size, 1, none⟩) (Nat.le_refl _) _⟩
  · have ho := HO.out
    rw [if_neg q] at ho
    cases ho
    obtain ⟨x0, x1, f0, f1⟩ := K.box2 h1
    have k0 : ∀ o o', ((w1.alloc o).alloc o').cell? ⟨w.heap.size, 0, none⟩ = some (.int .i64 0) := fun o o' => K.alloc_cell (K.alloc_cell x0 o) o'
    have k1 : ∀ o o', ((w1.alloc o).alloc o').cell? ⟨w.heap.size, 1, none⟩ = some (.int .i64 0) := fun o o' => K.alloc_cell (K.alloc_cell x1 o) o'
    have h1a : ∀ o, (w1.alloc o).heap[w.heap.size]? = some (.cells #[.int .i64 0, .int .i64 0] 29) := fun o => by rw [Below.heap_alloc w1 o w.heap.size (by omega)]; exact HX1.out
    have g0 : ∀ o o', ((w1.alloc o).alloc o').frozen? ⟨w.heap.size, 0, none⟩ = false := fun o o' => K.alloc_free (h1a o) o' 0
    have g1 : ∀ o o', ((w1.alloc o).alloc o').frozen? ⟨w.heap.size, 1, none⟩ = false := fun o o' => K.alloc_free (h1a o) o' 1
    have HB2 : Hid (∀ o o', Below w.heap.size w ((w1.alloc o).alloc o')) := fun o o' => (HB1.out.alloc (by omega) o).alloc (by simp; omega) o'
    clear h1 x0 x1 f0 f1 h1a
    go_wp2
    go_region
    go_wp2
    refine bodyPost_ret (v := .tuple #[.bool false, .agg #[.int .i64 o1, .int .i64 o2]]) (by simp [results, Try.results24, go_sem, *]) rfl ?_
    exact ⟨rfl, (((HB2.out _ _).setCell (p := ⟨w.heap.size, 0, none⟩) (Nat.le_refl _) _).setCell (p := ⟨w.heap.size, 1, none⟩) (Nat.le_refl _) _).drew⟩

end Go.Proofs.Ytdmpmkcigjkilaa
