/-
  (*vm.machine).play, whatever each step is told to.
-/
import Derived.Test.YtlmmjefplbcapaaGreatXPlay
import Derived.BigQuiet
import Derived.Test.YtlmmjefplbcapaaGreatYHead
import Derived.Test.YtlmmjefplbcapaaGreatSHas7
namespace Go.Proofs.YtlmmjefplbcapaaGreat
open Go.RowKit Go.Shelf
set_option maxRecDepth 20000
set_option linter.unusedSimpArgs false
set_option linter.unusedVariables false

theorem Gm.Mx.len {b : Nat} {ms : List Nat} {mb : Nat} {wb w : World} {g : Nat} {vr vh : Value} {l : List K.Rule} {c A Z : List Int} (M : Gm.Mx b ms mb wb w g vr vh l c A Z) (q : Nat) : Calls Tryz.prog 49 #[.pointer (some ⟨g, 0, none⟩)] (w.drewN q) fun e w' => e = .returned (.int .i64 (A.length + Z.length : Nat)) ∧ ∃ q', w' = (w.drewN q).drewN q' := by
  obtain ⟨ao, cur, hT⟩ := M.tx
  have hf := hT.fit
  refine (len_any (w.drewN q) g ao cur.length A.length (cur.length - Z.length) hT.box hT.most (by omega) (by omega)).mono ?_
  rintro e w' ⟨rfl, h⟩
  exact ⟨by rw [show cur.length - (cur.length - Z.length) = Z.length by omega], h⟩
theorem Gm.Mx.cur {b : Nat} {ms : List Nat} {mb : Nat} {wb w : World} {g : Nat} {vr vh : Value} {l : List K.Rule} {c A Z : List Int} (M : Gm.Mx b ms mb wb w g vr vh l c A Z) (q : Nat) : Calls Tryz.prog 50 #[.pointer (some ⟨g, 0, none⟩)] (w.drewN q) fun e w' => e = .returned (.int .i64 A.length) ∧ w' = w.drewN q := by
  obtain ⟨ao, cur, hT⟩ := M.tx
  exact cursor_any (w.drewN q) g A.length _ _ hT.box
theorem Gm.Mx.drewN {b : Nat} {ms : List Nat} {mb : Nat} {wb w : World} {g : Nat} {vr vh : Value} {l : List K.Rule} {c A Z : List Int} (M : Gm.Mx b ms mb wb w g vr vh l c A Z) (q : Nat) : Gm.Mx b ms mb wb (w.drewN q) g vr vh l c A Z := M.below (below_drewN (Below.refl _ w) q)

theorem Gm.Mx.top {b : Nat} {ms : List Nat} {mb : Nat} {wb w : World} {g : Nat} {vr vh : Value} {l : List K.Rule} {c A Z : List Int} (M : Gm.Mx b ms mb wb w g vr vh l c A Z) : b ≤ w.heap.size := by
  obtain ⟨ao, cur, h⟩ := M.tx
  have h1 : b ≤ g := h.hB.1
  have h2 := h.box.lt
  omega

set_option maxHeartbeats 8000000 in
theorem xplay_any (b mb : Nat) (wb w : World) (g : Nat) (vr vh : Value) (l : List K.Rule) (c t : List Int) (M : Gm.Mx b [mb] mb wb w g vr vh l c [] t) (O : Gm.Ok l c) (hR : K.allR t = true)
    (T : World → Int → Int → Prop) (hT0 : T w 0 0) (hTb : ∀ W W' s p, T W s p → Below b W W' → T W' s p)
    (ft : Nat) (ct : Array Value) (eg : ∀ args w, (callFunc ft args).run Tryz.prog w = .ok (.enter ft args) w)
    (hf : ∀ W A Z (s p at_ k : Int), Gm.Mx b [mb] mb wb W g vr vh l c A Z → T W s p → 0 ≤ p → p ≤ s → s < 8 * t.length + 40 → (k = -1 ∨ 0 ≤ k) → Calls Tryz.prog ft (#[.agg #[.int .i64 at_, .int .i64 k]] ++ ct) W fun e w' => e = .returned (.tuple #[]) ∧ Gm.Mx b [mb] mb wb w' g vr vh l c A Z ∧ T w' (s + 1) (p + if k = -1 then 0 else 1))
    (o1 : Int) (o2 : List Int) (o3 o4 : Int) (hO : K.play l (8 * t.length + 40) [] t 0 0 = (o1, o2, o3, o4)) :
    Calls Tryz.prog 38 #[.pointer (some ⟨mb, 0, none⟩), .func (.func ft) #[] ct] w fun e w' => e = .returned (.int .i64 o1) ∧ Below wb.heap.size wb w' ∧ (∃ s p, T w' s p) ∧ (o1 = 0 → Gm.Mx b [mb] mb wb w' g vr vh l c o2 [] ∧ T w' o3 o4) := by
  have ht : t.length ≤ 4000 := by
    obtain ⟨_, _, h⟩ := M.tx
    simpa using h.few
  have HM : Hid (Gm.Mx b [mb] mb wb w g vr vh l c [] t) := M
  have hbw := M.top
  have HOk : Hid (Gm.Ok l c) := O
  have HR : Hid (K.allR ([] ++ t) = true) := hR
  have HT : Hid (T w 0 0) := hT0
  have HTb : Hid (∀ W W' s p, T W s p → Below b W W' → T W' s p) := hTb
  have HF : Hid (∀ W A Z (s p at_ k : Int), Gm.Mx b [mb] mb wb W g vr vh l c A Z → T W s p → 0 ≤ p → p ≤ s → s < 8 * t.length + 40 → (k = -1 ∨ 0 ≤ k) → Calls Tryz.prog ft (#[.agg #[.int .i64 at_, .int .i64 k]] ++ ct) W fun e w' => e = .returned (.tuple #[]) ∧ Gm.Mx b [mb] mb wb w' g vr vh l c A Z ∧ T w' (s + 1) (p + if k = -1 then 0 else 1)) := hf
  have HO : Hid (K.play l (8 * t.length + 40) [] t 0 0 = (o1, o2, o3, o4)) := hO
  have k0 : w.cell? ⟨mb, 0, none⟩ = some (.pointer (some ⟨g, 0, none⟩)) := K.at_box (i := 0) M.box rfl
  have HL := M.len 0
  have HL0 : Hid (Calls Tryz.prog 49 #[.pointer (some ⟨g, 0, none⟩)] w fun e w' => e = .returned (.int .i64 t.length) ∧ ∃ q', w' = w.drewN q') := by
    simp only [List.length_nil, Nat.zero_add] at HL
    exact HL
  clear M O hR hT0 hTb hf hO HL
  go_enter Tryz.func38, Tryz.ntmps38
  go_wp2_with fail
  go_at_call 49
  refine HL0.out.mono ?_
  rintro e w1 ⟨rfl, q, rfl⟩
  have HM1 : Hid (Gm.Mx b [mb] mb wb (w.drewN q) g vr vh l c [] t) := HM.out.drewN q
  have HT1 : Hid (T (w.drewN q) 0 0) := HTb.out _ _ _ _ HT.out (below_drewN (Below.refl _ w) q)
  have hbw1 : b ≤ (w.drewN q).heap.size := hbw
  generalize w.drewN q = w0 at *
  clear HM HT HL0 k0 hbw
  go_wp2_with (go_at_call 48; refine (xmost_any _ t.length ht).mono ?_; rintro e wq ⟨rfl, rfl⟩)
  go_loopw [5] (fun i5 wr => ∃ (left : Nat) (A Z : List Int) (s p : Int), i5 = .int .i64 left ∧ 0 ≤ p ∧ p ≤ s ∧ s + left = 8 * t.length + 40 ∧ Hid (Gm.Mx b [mb] mb wb wr g vr vh l c A Z) ∧ Hid (T wr s p) ∧ Hid (K.allR (A ++ Z) = true) ∧ Hid (K.play l left A Z s p = (o1, o2, o3, o4)) ∧ b ≤ wr.heap.size) (fun i5 _ => (RowKit.intOf i5).toNat)
  case atStart => exact ⟨8 * t.length + 40, [], t, 0, 0, by go_num, by omega, by omega, by omega, HM1, HT1, HR, HO, hbw1⟩
  case round =>
    obtain ⟨left, A, Z, s, p, rfl, hp0, hps, hsl, HMr, HTr, HRr, HPr, hbr⟩ := hrel
    have k0 : wr.cell? ⟨mb, 0, none⟩ = some (.pointer (some ⟨g, 0, none⟩)) := K.at_box (i := 0) HMr.out.box rfl
    have hlen : A.length + Z.length ≤ 4000 := by
      obtain ⟨_, _, h⟩ := HMr.out.tx
      exact h.few
    by_cases hz : Z.length = 0
    · have hp := HPr.out
      rw [K.play_end hz] at hp
      simp only [Prod.mk.injEq] at hp
      obtain ⟨rfl, rfl, rfl, rfl⟩ := hp
      have hzn : Z = [] := List.eq_nil_of_length_eq_zero hz
      subst hzn
      have HQ : Hid (∀ q, Calls Tryz.prog 49 #[.pointer (some ⟨g, 0, none⟩)] (wr.drewN q) fun e w' => e = .returned (.int .i64 A.length) ∧ ∃ q', w' = (wr.drewN q).drewN q') := fun q => HMr.out.len q
      have HC : Hid (∀ q, Calls Tryz.prog 50 #[.pointer (some ⟨g, 0, none⟩)] (wr.drewN q) fun e w' => e = .returned (.int .i64 A.length) ∧ w' = wr.drewN q) := fun q => HMr.out.cur q
      clear HPr HRr HF HO HR HM1 HT1
      go_wp2_with fail
      go_quiet (first | (go_at_call 49; exact Calls.quiet_of (HQ.out _)) | (go_at_call 50; exact Calls.quiet_of_same (HC.out _)))
      go_wp2
      go_ret
      exact ⟨rfl, (HMr.out.drewN nq).bel, ⟨_, _, HTb.out _ _ _ _ HTr.out (below_drewN (Below.refl _ wr) nq)⟩, HMr.out.drewN nq, HTb.out _ _ _ _ HTr.out (below_drewN (Below.refl _ wr) nq)⟩
    · obtain ⟨N, hN⟩ : ∃ N, N = A.length + Z.length := ⟨_, rfl⟩
      have HQ : Hid (∀ q, Calls Tryz.prog 49 #[.pointer (some ⟨g, 0, none⟩)] (wr.drewN q) fun e w' => e = .returned (.int .i64 N) ∧ ∃ q', w' = (wr.drewN q).drewN q') := fun q => by rw [hN]; exact HMr.out.len q
      have HC : Hid (∀ q, Calls Tryz.prog 50 #[.pointer (some ⟨g, 0, none⟩)] (wr.drewN q) fun e w' => e = .returned (.int .i64 A.length) ∧ w' = wr.drewN q) := fun q => HMr.out.cur q
      have hlt : (A.length : Int) < N := by omega
      clear HO HR HM1 HT1
      go_wp2_with fail
      go_quiet (first | (go_at_call 49; exact Calls.quiet_of (HQ.out _)) | (go_at_call 50; exact Calls.quiet_of_same (HC.out _)))
      have HMq : Hid (Gm.Mx b [mb] mb wb (wr.drewN nq) g vr vh l c A Z) := HMr.out.drewN nq
      have HTq : Hid (T (wr.drewN nq) s p) := HTb.out _ _ _ _ HTr.out (below_drewN (Below.refl _ wr) nq)
      have hbq : b ≤ (wr.drewN nq).heap.size := hbr
      clear HQ HC k0 HMr HTr hbr
      generalize wr.drewN nq = W at *
      have k0 : W.cell? ⟨mb, 0, none⟩ = some (.pointer (some ⟨g, 0, none⟩)) := K.at_box (i := 0) HMq.out.box rfl
      cases left with
      | zero =>
        have hp := HPr.out
        rw [K.play_out hz] at hp
        simp only [Prod.mk.injEq] at hp
        obtain ⟨rfl, rfl, rfl, rfl⟩ := hp
        go_wp2
        go_ret
        exact ⟨rfl, HMq.out.bel, ⟨s, p, HTq.out⟩, fun h => absurd h (by decide)⟩
      | succ left =>
        have hne : ¬ ((left + 1 : Nat) : Int) = 0 := by omega
        have HCu : Hid (Calls Tryz.prog 50 #[.pointer (some ⟨g, 0, none⟩)] W fun e w' => e = .returned (.int .i64 A.length) ∧ w' = W) := HMq.out.cur 0
        have HFi : Hid (Calls Tryz.prog 51 #[.pointer (some ⟨mb, 0, none⟩)] W fun e w' => e = .returned (.int .i64 (K.which l (A ++ Z) A.length)) ∧ Below W.heap.size W w') := xfirst_any b [mb] mb wb W g vr vh l c A Z HMq.out HOk.out (by omega) (Gm.right_range HRr.out)
        have HSt : Hid (∀ W2 o, Below W.heap.size W W2 → Calls Tryz.prog 52 #[.pointer (some ⟨mb, 0, none⟩), .int .i64 (K.which l (A ++ Z) A.length)] (W2.alloc o) fun e w' => ∃ x : Int, e = .returned (.int .i64 x) ∧
      ((x = 4 ∧ Below wb.heap.size wb w' ∧ T w' s p ∧ o1 = 4) ∨
       (x = 0 ∧ w'.heap[W2.heap.size]? = some o ∧ b ≤ w'.heap.size ∧ ∃ A' Z', Gm.Mx b [mb] mb wb w' g vr vh l c A' Z' ∧ T w' s p ∧ K.allR (A' ++ Z') = true ∧ K.play l left A' Z' (s + 1) (p + if K.which l (A ++ Z) A.length = -1 then 0 else 1) = (o1, o2, o3, o4)))) := fun W2 o hW2 => by
          have hM2 := (HMq.out.below hW2).box1 o
          have hb2 : Below W.heap.size W (W2.alloc o) := hW2.alloc (hW2.size) o
          have hs2 := hb2.size
          refine (xstep_all b _ mb wb _ g vr vh l c A Z hM2 HOk.out (by omega) HRr.out).mono ?_
          rintro e w' ⟨x, rfl, ⟨rfl, h1, h2⟩ | ⟨rfl, A', Z', h1, h2, h3, h4⟩⟩
          · have hp := HPr.out
            rw [h2] at hp
            simp only [Prod.mk.injEq] at hp
            exact ⟨4, rfl, .inl ⟨rfl, hM2.bel.trans (h1.mono hM2.base), HTb.out _ _ _ _ HTq.out ((hb2.mono hbq).trans h1), hp.1.symm⟩⟩
          · refine ⟨0, rfl, .inr ⟨rfl, ?_, by have := h2.size; omega, A', Z', h1.less (by simp) (by simp), HTb.out _ _ _ _ HTq.out ((hb2.mono hbq).trans h2.1), h3, ?_⟩⟩
            · rw [h2.2 _ (by simp) (by simp)]; exact heap_alloc_new W2 o
            · rw [← h4]; exact HPr.out
        have hkk : K.which l (A ++ Z) A.length = -1 ∨ 0 ≤ K.which l (A ++ Z) A.length := by
          rcases K.which_is (l := l) (t := A ++ Z) (k := (A.length : Int)) with h | ⟨j, r, _, _, h⟩
          · exact .inl h
          · exact .inr (by rw [h]; omega)
        generalize K.which l (A ++ Z) A.length = kk at *
        clear HMq HRr HTq HPr
        go_wp2_with fail
        go_at_call 50
        refine HCu.out.mono ?_
        rintro e w1 ⟨rfl, rfl⟩
        go_wp2_with fail
        go_at_call 51
        refine HFi.out.mono ?_
        rintro e w2 ⟨rfl, hw2⟩
        have HB2 : Hid (Below w1.heap.size w1 w2) := hw2
        clear hw2 k0 HCu HFi
        go_wp2_with fail
        refine (HSt.out w2 _ HB2.out).mono ?_
        rintro e w3 ⟨x, rfl, ⟨rfl, h1, h1t, rfl⟩ | ⟨rfl, h1, h2, A', Z', h3, h4, h5, h6⟩⟩
        · have H1 : Hid (Below wb.heap.size wb w3 ∧ T w3 s p) := ⟨h1, h1t⟩
          clear h1 h1t HSt HB2 HF
          go_wp2
          go_ret
          exact ⟨rfl, H1.out.1, ⟨s, p, H1.out.2⟩, fun h => absurd h (by decide)⟩
        · have d0 : w3.cell? ⟨w2.heap.size, 0, none⟩ = some (.int .i64 A.length) := K.at_box (i := 0) h1 rfl
          have d1 : w3.cell? ⟨w2.heap.size, 1, none⟩ = some (.int .i64 kk) := K.at_box (i := 1) h1 rfl
          have HFo := HF.out w3 A' Z' s p A.length kk h3 h4 hp0 hps (by omega) hkk
          have HFo2 : Hid (Calls Tryz.prog ft (#[.agg #[.int .i64 A.length, .int .i64 kk]] ++ ct) w3 fun e w' => e = .returned (.tuple #[]) ∧ Gm.Mx b [mb] mb wb w' g vr vh l c A' Z' ∧ T w' (s + 1) (p + if kk = -1 then 0 else 1)) := HFo
          have H5 : Hid (K.allR (A' ++ Z') = true) := h5
          have H6 : Hid (K.play l left A' Z' (s + 1) (p + if kk = -1 then 0 else 1) = (o1, o2, o3, o4)) := h6
          clear h1 h2 h3 h4 h5 h6 HFo HSt HB2 HF
          go_wp2_with fail
          refine HFo2.out.mono ?_
          rintro e w4 ⟨rfl, g1, g2⟩
          have G1 : Hid (Gm.Mx b [mb] mb wb w4 g vr vh l c A' Z') := g1
          have G2 : Hid (T w4 (s + 1) (p + if kk = -1 then 0 else 1)) := g2
          clear g1 g2 HFo2 d0 d1
          go_wp2
          go_roundw
          case rel =>
            refine ⟨left, A', Z', s + 1, _, by go_num, ?_, ?_, by omega, G1, G2, H5, H6, ?_⟩
            · split <;> omega
            · split <;> omega
            · exact G1.out.top
          case measure => simp [RowKit.intOf]

end Go.Proofs.YtlmmjefplbcapaaGreat

/-
  How long a text gets.
-/
namespace Go.Proofs.YtlmmjefplbcapaaGreat.K

theorem play_len {l : List Rule} : ∀ {left : Nat} {done rest : List Int} {s p : Int}, done.length + rest.length ≤ 4000 → (play l left done rest s p).2.1.length ≤ 4000 := by
  intro left
  induction left with
  | zero =>
    intro done rest s p h
    rw [play]
    split
    · show done.length ≤ 4000; omega
    · show 0 ≤ 4000; omega
  | succ left ih =>
    intro done rest s p h
    rw [play]
    split
    · show done.length ≤ 4000; omega
    · split
      · exact ih (by simp; omega)
      · simp only
        split
        · show 0 ≤ 4000; omega
        · exact ih (by simp; omega)
theorem runF_len {l : List Rule} {t : List Int} : (runF l t).1.1.length ≤ 4000 := by
  unfold runF
  split
  · rename_i h
    have ht := textE_zero (checkF_zero h).2.1
    exact play_len (by simpa using ht)
  · show 0 ≤ 4000; omega

end Go.Proofs.YtlmmjefplbcapaaGreat.K

/-
  Sets within sets: the plain part.
-/
namespace Go.Proofs.YtlmmjefplbcapaaGreat
open Go.RowKit Go.Lib Go.Sort

/-- each span of the one lies in a span of the other -/
def subF (a b : List S.Sp) : Bool := a.all fun x => b.any fun y => decide (y.1 ≤ x.1) && decide (x.2 ≤ y.2)

theorem in_span {b : List S.Sp} {lo hi : Int} (N : S.Nf 0 b) (hm : ∀ r, lo ≤ r → r ≤ hi → S.memb b r = true) {y : S.Sp} (hy : y ∈ b) (h2 : lo ≤ y.2) : hi ≤ y.2 := by
  by_cases hlt : hi ≤ y.2
  · exact hlt
  · exfalso
    have h3 := hm (y.2 + 1) (by omega) (by omega)
    obtain ⟨z, hz, h4, h5⟩ := S.memb_iff.1 h3
    obtain ⟨i, hi1⟩ := List.getElem?_of_mem hy
    obtain ⟨j, hj1⟩ := List.getElem?_of_mem hz
    rcases Nat.lt_trichotomy i j with hlt | rfl | hgt
    · have := N.rise hlt hi1 hj1; omega
    · rw [hi1] at hj1; cases hj1; omega
    · have := N.rise hgt hj1 hi1
      have := N.mem hy
      omega

theorem subF_iff {a b : List S.Sp} (Na : S.Nf 0 a) (Nb : S.Nf 0 b) : subF a b = true ↔ ∀ r, S.memb a r = true → S.memb b r = true := by
  unfold subF
  rw [List.all_eq_true]
  constructor
  · intro h r hr
    obtain ⟨x, hx, h1, h2⟩ := S.memb_iff.1 hr
    have h3 := h x hx
    rw [List.any_eq_true] at h3
    obtain ⟨y, hy, h4⟩ := h3
    simp at h4
    exact S.memb_iff.2 ⟨y, hy, by omega, by omega⟩
  · intro h x hx
    have hxo := Na.mem hx
    have hb : ∀ r, x.1 ≤ r → r ≤ x.2 → S.memb b r = true := fun r h1 h2 => h r (S.memb_iff.2 ⟨x, hx, h1, h2⟩)
    obtain ⟨y, hy, h1, h2⟩ := S.memb_iff.1 (hb x.1 (by omega) (by omega))
    rw [List.any_eq_true]
    refine ⟨y, hy, ?_⟩
    have := in_span Nb hb hy h2
    simp
    omega

end Go.Proofs.YtlmmjefplbcapaaGreat
