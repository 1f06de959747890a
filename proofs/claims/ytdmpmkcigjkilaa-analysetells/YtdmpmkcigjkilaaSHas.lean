/-
  What sets.Sub answers of right sets: span by span, by what sort.Search finds.
-/
import Derived.Test.YtdmpmkcigjkilaaSHas7
namespace Go.Proofs.Ytdmpmkcigjkilaa
open Go.RowKit Go.Lib Go.Sort

/-- each span of the one lies in a span of the other -/
def subF (a b : List S.Sp) : Bool := a.all fun x => b.any fun y => decide (y.1 ≤ x.1) && decide (x.2 ≤ y.2)

theorem in_span {b : List S.Sp} {lo hi : Int} (N : S.Nf 0 b) (hm : ∀ r, lo ≤ r → r ≤ hi → S.memb b r = true) {y : S.Sp} (hy : y ∈ b) (h2 : lo ≤ y.2) : hi ≤ y.2 := by
  by_cases hlt : hi ≤ y.2
  · exact hlt
  · exfalso
    have h3 := hm (y.2 + 1) (by omega) (by omega)
    obtain ⟨z, hz, h4, h5⟩ := S.memb_iff.1 h3
    obtain ⟨i, hi1⟩ := List.getElem?_of_mem hy
    obtain ⟨j, hj1⟩ := List.getElem?_of_mem hz
    rcases Nat.lt_trichotomy i j with hlt | rfl | hgt
    · have := N.rise hlt hi1 hj1; omega
    · rw [hi1] at hj1; cases hj1; omega
    · have := N.rise hgt hj1 hi1
      have := N.mem hy
      omega

theorem subF_iff {a b : List S.Sp} (Na : S.Nf 0 a) (Nb : S.Nf 0 b) : subF a b = true ↔ ∀ r, S.memb a r = true → S.memb b r = true := by
  unfold subF
  rw [List.all_eq_true]
  constructor
  · intro h r hr
    obtain ⟨x, hx, h1, h2⟩ := S.memb_iff.1 hr
    have h3 := h x hx
    rw [List.any_eq_true] at h3
    obtain ⟨y, hy, h4⟩ := h3
    simp at h4
    exact S.memb_iff.2 ⟨y, hy, by omega, by omega⟩
  · intro h x hx
    have hxo := Na.mem hx
    have hb : ∀ r, x.1 ≤ r → r ≤ x.2 → S.memb b r = true := fun r h1 h2 => h r (S.memb_iff.2 ⟨x, hx, h1, h2⟩)
    obtain ⟨y, hy, h1, h2⟩ := S.memb_iff.1 (hb x.1 (by omega) (by omega))
    rw [List.any_eq_true]
    refine ⟨y, hy, ?_⟩
    have := in_span Nb hb hy h2
    simp
    omega

/-- one span against what 'around' answers -/
theorem sub_at {b : List S.Sp} (Nb : S.Nf 0 b) {x y : S.Sp} (hx : x.1 ≤ x.2) :
    (S.memb b x.1 = false → (b.any fun y => decide (y.1 ≤ x.1) && decide (x.2 ≤ y.2)) = false) ∧ (y ∈ b → y.1 ≤ x.1 → x.1 ≤ y.2 → (b.any fun y => decide (y.1 ≤ x.1) && decide (x.2 ≤ y.2)) = decide (x.2 ≤ y.2)) := by
  constructor
  · intro h
    cases hq : (b.any fun y => decide (y.1 ≤ x.1) && decide (x.2 ≤ y.2)) with
    | false => rfl
    | true =>
      rw [List.any_eq_true] at hq
      obtain ⟨z, hz, h1⟩ := hq
      simp at h1
      have : S.memb b x.1 = true := S.memb_iff.2 ⟨z, hz, by omega, by omega⟩
      rw [h] at this; cases this
  · intro hy h1 h2
    apply S.bool_eq
    rw [List.any_eq_true]
    constructor
    · rintro ⟨z, hz, h3⟩
      simp at h3
      have := in_span Nb (lo := x.1) (hi := x.2) (fun r h4 h5 => S.memb_iff.2 ⟨z, hz, by omega, by omega⟩) hy h2
      simpa using this
    · intro h3
      exact ⟨y, hy, by simp at h3 ⊢; omega⟩

set_option maxHeartbeats 1000000 in
theorem sub_any (w : World) (va vb : Value) (a b : List S.Sp) (Ra : S.Rd w va a) (Rb : S.Rd w vb b) (Na : S.Nf 0 a) (Nb : S.Nf 0 b) (hla : a.length ≤ 200) (hlb : b.length ≤ 200) :
    Calls Try.prog 112 #[va, vb] w fun e w' => e = .returned (.bool (subF a b)) ∧ Below w.heap.size w w' := by
  obtain ⟨ao, cap, rfl, hn, hc⟩ := Ra
  have HB : Hid (S.Rd w vb b) := Rb
  obtain ⟨ab, cb, rfl⟩ := Rb.len
  have NB : Hid (S.Nf 0 b) := Nb
  have NA : Hid (S.Nf 0 a) := Na
  clear Rb Na Nb
  go_enter Try.func112, Try.ntmps112
  go_wp2
  go_loopw [11] (fun i wr => ∃ k : Nat, k ≤ a.length ∧ i = .int .i64 k ∧ Hid (subF (a.take k) b = true) ∧ Hid (Below w.heap.size w wr)) (fun i _ => a.length - (intOf i).toNat)
  case atStart => exact ⟨0, Nat.zero_le _, rfl, by show subF (a.take 0) b = true; simp [subF], Below.refl _ w⟩
  case round =>
    obtain ⟨k, hk, rfl, HW, HBW⟩ := hrel
    have hsz := HBW.out.size
    by_cases hlt : k < a.length
    · obtain ⟨bl, off, rfl, hcell⟩ := hc (by intro h; subst h; simp at hlt)
      obtain ⟨x, hx⟩ : ∃ x, a[k]? = some x := ⟨a[k], by simp [hlt]⟩
      have c0 := hcell k x hx
      have hb := L.block_lt c0.1
      have c1 := c0.1
      have c2 := c0.2
      rw [← HBW.out.cell (p := ⟨bl, _, none⟩) hb] at c1 c2
      have hxo := NA.out.mem (List.mem_of_getElem? hx)
      have HX : Hid (a[k]? = some x) := hx
      have HS : Hid (∀ y, (S.memb b x.1 = false → (b.any fun y => decide (y.1 ≤ x.1) && decide (x.2 ≤ y.2)) = false) ∧ (y ∈ b → y.1 ≤ x.1 → x.1 ≤ y.2 → (b.any fun y => decide (y.1 ≤ x.1) && decide (x.2 ≤ y.2)) = decide (x.2 ≤ y.2))) := fun y => sub_at NB.out hxo.2.1
      have HNo : Hid ((b.any fun y => decide (y.1 ≤ x.1) && decide (x.2 ≤ y.2)) = false → subF a b = false) := fun h => by
        unfold subF
        rw [List.all_eq_false]
        exact ⟨x, List.mem_of_getElem? hx, by rw [h]; simp⟩
      have HYes : Hid ((b.any fun y => decide (y.1 ≤ x.1) && decide (x.2 ≤ y.2)) = true → subF (a.take (k + 1)) b = true) := fun h => by
        have h1 := HW.out
        unfold subF at h1 ⊢
        rw [List.take_add_one, hx, List.all_append, h1]
        simpa using h
      have HBa : Hid (∀ o, Below w.heap.size w (wr.alloc o)) := fun o => HBW.out.alloc hsz o
      have har := fun o => around_any (wr.alloc o) (.slice ab b.length cb) b x.1 (HB.out.below (HBa.out o) (Nat.le_refl _)) NB.out hlb
      obtain ⟨x1, x2⟩ := x
      simp only at c1 c2 hxo har
      clear c0 hx hcell hc
      have har1 := har (.cells #[.int .i32 x1, .int .i32 x2] 99)
      clear har
      generalize hmm : S.memb b x1 = mm at *
      clear hmm
      go_wp2_with fail
      refine har1.mono ?_
      clear har1
      rintro e w1 ⟨⟨y1, y2⟩, rfl, hy, hb1⟩
      simp only at hy
      obtain ⟨⟨d1, d2⟩, _, hs1, _⟩ := S.boxed hb1
      have HB1 : Hid (Below w.heap.size w w1) := (HBa.out _).trans (hb1.mono (by simp; omega))
      have hs2 : w.heap.size ≤ w1.heap.size := by omega
      have hne : wr.heap.size ≠ w1.heap.size := by omega
      have HB2 : Hid (∀ o, Below w.heap.size w (w1.alloc o)) := fun o => HB1.out.alloc hs2 o
      have HY : Hid (mm = true → (y1, y2) ∈ b ∧ y1 ≤ x1 ∧ x1 ≤ y2) := hy
      clear hb1 hy
      simp only
      cases mm with
      | false =>
        go_wp2
        go_ret
        exact ⟨by rw [HNo.out ((HS.out (0, 0)).1 trivial)]; rfl, HB2.out _⟩
      | true =>
        obtain ⟨hy1, hy2, hy3⟩ := HY.out rfl
        have hS2 := (HS.out (y1, y2)).2 hy1 hy2 hy3
        simp only at hS2
        have HS2 : Hid _ := hS2
        clear hS2
        by_cases hlow : y2 < x2
        · go_wp2
          go_ret
          refine ⟨?_, HB2.out _⟩
          rw [HNo.out (by rw [HS2.out]; simp; omega)]; rfl
        · go_wp2
          go_roundw
          case rel => exact ⟨k + 1, by omega, by go_num, HYes.out (by rw [HS2.out]; simp; omega), HB2.out _⟩
          case measure => simp [intOf]; omega
    · go_wp2
      go_ret
      refine ⟨L.ret_bool ?_, HBW.out⟩
      rw [← HW.out, List.take_of_length_le (by omega)]

end Go.Proofs.Ytdmpmkcigjkilaa
