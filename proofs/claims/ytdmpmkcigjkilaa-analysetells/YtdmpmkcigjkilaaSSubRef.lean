/-
  What the document's Sub answers of right sets.
-/
import Derived.Test.YtdmpmkcigjkilaaSOfH
import Derived.Test.YtdmpmkcigjkilaaSHas
namespace Go.Proofs.Ytdmpmkcigjkilaa
open Go.RowKit

/-- each number in range lies behind an edge -/
theorem edge_below {zs : List Int} {P : Int → Bool} (E : Edged zs P) {q : Int} (h0 : 0 ≤ q) (h1 : q ≤ 1114111) : ∃ r ∈ zs, P q = P r := by
  have key : ∀ n : Nat, n ≤ zs.length → 0 < n → (∀ r, zs[n - 1]? = some r → r ≤ q) → ∃ r ∈ zs, P q = P r := by
    intro n
    induction h : zs.length - n generalizing n with
    | zero =>
      intro hn hpos hr
      obtain ⟨r, hx⟩ : ∃ r, zs[n - 1]? = some r := ⟨zs[n - 1]'(by omega), by simp [show n - 1 < zs.length by omega]⟩
      refine ⟨r, List.mem_of_getElem? hx, E.same (n - 1) r hx q (hr r hx) (fun r' hr' => ?_) h1⟩
      rw [show n - 1 + 1 = zs.length by omega] at hr'
      simp at hr'
    | succ m ih =>
      intro hn hpos hr
      obtain ⟨r, hx⟩ : ∃ r, zs[n]? = some r := ⟨zs[n]'(by omega), by simp [show n < zs.length by omega]⟩
      by_cases hrq : r ≤ q
      · exact ih (n + 1) (by omega) (by omega) (by omega) (fun r' hr' => by rw [show n + 1 - 1 = n by omega, hx] at hr'; cases hr'; exact hrq)
      · obtain ⟨r0, hx0⟩ : ∃ r, zs[n - 1]? = some r := ⟨zs[n - 1]'(by omega), by simp [show n - 1 < zs.length by omega]⟩
        refine ⟨r0, List.mem_of_getElem? hx0, E.same (n - 1) r0 hx0 q (hr r0 hx0) (fun r' hr' => ?_) h1⟩
        rw [show n - 1 + 1 = n by omega, hx] at hr'
        cases hr'
        omega
  have l0 := (List.getElem?_eq_some_iff.1 E.first).1
  exact key 1 (by omega) (by omega) (fun r hr => by rw [show 1 - 1 = 0 from rfl, E.first] at hr; cases hr; exact h0)

theorem sub_edges {a b : List S.Sp} (Na : S.Nf 0 a) (Nb : S.Nf 0 b) {zs : List Int} (Ea : Edged zs fun q => S.memb a q && !S.memb b q) : subF a b = zs.all fun r => !(S.memb a r && !S.memb b r) := by
  apply S.bool_eq
  rw [subF_iff Na Nb, List.all_eq_true]
  constructor
  · intro h r _
    cases ha : S.memb a r with
    | false => rfl
    | true => rw [h r ha]; rfl
  · intro h r hr
    have hlow := Na.low hr
    obtain ⟨e, he, hp⟩ := edge_below Ea hlow.1 hlow.2
    have h2 := h e he
    rw [← hp, hr] at h2
    simpa using h2

set_option maxHeartbeats 2000000 in
theorem refsub_any (w : World) (va vb : Value) (a b : List S.Sp) (Ra : S.Rd w va a) (Rb : S.Rd w vb b) (Na : S.Nf 0 a) (Nb : S.Nf 0 b) (hla : a.length ≤ 200) (hlb : b.length ≤ 200) :
    Calls Try.prog 56 #[va, vb] w fun e w' => e = .returned (.bool (subF a b)) ∧ Below w.heap.size w w' := by
  obtain ⟨aa, ca, rfl⟩ := Ra.len
  obtain ⟨ab, cb, rfl⟩ := Rb.len
  have HA : Hid (S.Rd w (.slice aa a.length ca) a) := Ra
  have HB : Hid (S.Rd w (.slice ab b.length cb) b) := Rb
  have hbad : ∀ l ∈ [a, b], l.any S.bad = false := fun l hl => by
    simp at hl
    rcases hl with rfl | rfl
    · exact bad_none Na
    · exact bad_none Nb
  have HBa : Hid (∀ o, Below w.heap.size w (w.alloc o)) := fun o => (Below.refl _ w).alloc (Nat.le_refl _) o
  have hed := edges_any (w.alloc (.cells #[.slice aa a.length ca, .slice ab b.length cb] 23)) w.heap.size [.slice aa a.length ca, .slice ab b.length cb] [a, b] rfl (by simp) (fun i v h => two_cells2 w _ _ _ i v h) (fun i v l hv hl => by
    match i, hv, hl with
    | 0, hv, hl => simp at hv hl; subst hv; subst hl; exact HA.out.below (HBa.out _) (Nat.le_refl _)
    | 1, hv, hl => simp at hv hl; subst hv; subst hl; exact HB.out.below (HBa.out _) (Nat.le_refl _)
    | i + 2, hv, hl => simp at hv) hbad (fun l hl => by simp at hl; rcases hl with rfl | rfl <;> omega)
  have HEd := edged_of hbad (fun q => S.memb a q && !S.memb b q) (fun q r h => by rw [h a (by simp), h b (by simp)])
  have hzl : (S.edgesF [a, b]).length ≤ 4194304 := by
    have h := (S.edgesF_spec hbad).2.2.2
    have h1 := edgesOf_len a
    have h2 := edgesOf_len b
    simp only [List.flatMap_cons, List.flatMap_nil, List.append_nil, List.length_append] at h
    omega
  change Calls _ _ #[.slice (some ⟨w.heap.size, 0, none⟩) 2 2] _ _ at hed
  rw [sub_edges Na Nb HEd]
  generalize S.edgesF [a, b] = zs at *
  clear Ra Rb hbad HEd Na Nb
  go_enter Try.func56, Try.ntmps56
  go_wp2_with fail
  refine hed.mono ?_
  clear hed
  rintro e W1 ⟨v1, rfl, R1, b1⟩
  have HB1 : Hid (Below w.heap.size w W1) := (HBa.out _).trans (b1.mono (by simp))
  have hs1 := HB1.out.size
  obtain ⟨ao, cap, rfl, hn, hc⟩ := R1
  clear b1
  go_wp2
  go_loopw [12] (fun iv wr => ∃ i : Nat, i ≤ zs.length ∧ iv = .int .i64 i ∧ Hid ((zs.take i).all (fun r => !(S.memb a r && !S.memb b r)) = true) ∧ Hid (Below W1.heap.size W1 wr)) (fun iv _ => zs.length - (intOf iv).toNat)
  case atStart => exact ⟨0, Nat.zero_le _, rfl, by show (zs.take 0).all _ = true; simp, Below.refl _ _⟩
  case round =>
    obtain ⟨i, hi, rfl, HW, HBr⟩ := hrel
    have hsr := HBr.out.size
    have HBw : Hid (Below w.heap.size w wr) := HB1.out.trans (HBr.out.mono hs1)
    by_cases hlt : i < zs.length
    · obtain ⟨be, off, rfl, hcell⟩ := hc (by intro h; subst h; simp at hlt)
      obtain ⟨r, hr⟩ : ∃ r, zs[i]? = some r := ⟨zs[i], by simp [hlt]⟩
      have c1 := hcell i r hr
      have hbe := L.block_lt c1
      rw [← HBr.out.cell (p := ⟨be, off + i, none⟩) hbe] at c1
      have hha := refhas_any wr _ a r (HA.out.below HBw.out (Nat.le_refl _)) (by omega)
      have HRr : Hid (zs[i]? = some r) := hr
      have HNo : Hid ((S.memb a r && !S.memb b r) = true → zs.all (fun r => !(S.memb a r && !S.memb b r)) = false) := fun h => by
        rw [List.all_eq_false]
        exact ⟨r, List.mem_of_getElem? hr, by rw [h]; simp⟩
      have HYes : Hid ((S.memb a r && !S.memb b r) = false → (zs.take (i + 1)).all (fun r => !(S.memb a r && !S.memb b r)) = true) := fun h => by
        rw [List.take_add_one, hr, List.all_append, HW.out]
        show (true && ((!(S.memb a r && !S.memb b r)) && true)) = true
        rw [h]
        rfl
      clear hr hcell
      cases hma : S.memb a r with
      | false =>
        rw [hma] at hha
        have HMa : Hid (S.memb a r = false) := hma
        clear hma
        go_wp2_with fail
        refine hha.mono ?_
        clear hha
        rintro e W2 ⟨rfl, b2⟩
        have HB2 : Hid (Below W1.heap.size W1 W2) := HBr.out.trans (b2.mono hsr)
        clear b2
        go_wp2
        go_roundw
        case rel => exact ⟨i + 1, by omega, by go_num, HYes.out (by rw [HMa.out]; rfl), HB2⟩
        case measure => simp [intOf]; omega
      | true =>
        rw [hma] at hha
        have HMa : Hid (S.memb a r = true) := hma
        clear hma
        go_wp2_with fail
        refine hha.mono ?_
        clear hha
        rintro e W2 ⟨rfl, b2⟩
        have HB2 : Hid (Below W1.heap.size W1 W2) := HBr.out.trans (b2.mono hsr)
        have HBw2 : Hid (Below w.heap.size w W2) := HBw.out.trans (b2.mono HBw.out.size)
        clear b2
        have hhb := refhas_any W2 _ b r (HB.out.below HBw2.out (Nat.le_refl _)) (by omega)
        cases hmb : S.memb b r with
        | true =>
          rw [hmb] at hhb
          have HMb : Hid (S.memb b r = true) := hmb
          clear hmb
          go_wp2_with fail
          refine hhb.mono ?_
          clear hhb
          rintro e W3 ⟨rfl, b3⟩
          have HB3 : Hid (Below W1.heap.size W1 W3) := HB2.out.trans (b3.mono HB2.out.size)
          clear b3
          go_wp2
          go_roundw
          case rel => exact ⟨i + 1, by omega, by go_num, HYes.out (by rw [HMa.out, HMb.out]; rfl), HB3⟩
          case measure => simp [intOf]; omega
        | false =>
          rw [hmb] at hhb
          have HMb : Hid (S.memb b r = false) := hmb
          clear hmb
          go_wp2_with fail
          refine hhb.mono ?_
          clear hhb
          rintro e W3 ⟨rfl, b3⟩
          have HB3 : Hid (Below w.heap.size w W3) := HBw2.out.trans (b3.mono HBw2.out.size)
          clear b3
          go_wp2
          go_ret
          exact ⟨by rw [HNo.out (by rw [HMa.out, HMb.out]; rfl)]; rfl, HB3.out⟩
    · go_wp2
      go_ret
      refine ⟨L.ret_bool ?_, HBw.out⟩
      rw [← HW.out, List.take_of_length_le (by omega)]

end Go.Proofs.Ytdmpmkcigjkilaa
