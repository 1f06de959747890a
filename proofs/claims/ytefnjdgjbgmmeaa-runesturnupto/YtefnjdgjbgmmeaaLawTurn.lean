/-
  The walk of scriptlaw1.RunesTurn: of any slice of runes and any text of at most 2^30 bytes it answers true, and nothing that was there has changed.
-/
import Derived.Test.YtefnjdgjbgmmeaaAlive
import Derived.Test.YtefnjdgjbgmmeaaSpoilt
import Derived.Test.YtefnjdgjbgmmeaaSame
import Derived.Test.YtefnjdgjbgmmeaaEncode
namespace Go.Proofs.Ytefnjdgjbgmmeaa
open Go.RowKit

theorem foldl_bytes : ∀ (ns : List Int) (r : ByteArray), (ns.foldl (fun r n => r ++ Utf8.encode n) r).data.toList = r.data.toList ++ ns.flatMap fun n => M.enc n
  | [], r => by simp
  | n :: ns, r => by
    rw [List.foldl_cons, foldl_bytes ns, ByteArray.data_append, Array.toList_append, List.flatMap_cons, List.append_assoc]
    rfl
theorem runesBytes_list (ns : List Int) : (runesBytes ns).data.toList = ns.flatMap fun n => M.enc n := by
  have h := foldl_bytes ns ByteArray.empty
  have e : ByteArray.empty.data.toList = ([] : List UInt8) := rfl
  rw [e, List.nil_append] at h
  exact h

theorem nat_of_right : ∀ zs : List Int, (∀ z ∈ zs, M.right z = true) → ∃ ns : List Nat, zs = ns.map (fun n : Nat => (n : Int))
  | [], _ => ⟨[], rfl⟩
  | z :: zs, h => by
    obtain ⟨ns, rfl⟩ := nat_of_right zs (fun x hx => h x (by simp [hx]))
    have h0 := h z (by simp)
    unfold M.right at h0
    simp at h0
    exact ⟨z.toNat :: ns, by simp; omega⟩

theorem turn_one (zs : List Int) (h : ∀ z ∈ zs, M.right z = true) : M.rn (runesBytes zs) = zs ∧ M.sp (runesBytes zs).data.toList = 0 := by
  obtain ⟨ns, rfl⟩ := nat_of_right zs h
  have hr : ∀ r ∈ ns, M.right (r : Int) = true := fun r hr => h _ (List.mem_map.2 ⟨r, hr, rfl⟩)
  have h1 := M.ru_enc ns hr
  have e : ((ns.map (fun n : Nat => (n : Int))).flatMap fun n => M.enc n) = ns.flatMap fun r : Nat => M.enc (r : Int) := by rw [List.flatMap_map]
  rw [M.rn_ru, runesBytes_list, e]
  refine ⟨?_, h1.2⟩
  have h2 := congrArg (List.map (fun n : Nat => (n : Int))) h1.1
  rw [List.map_map] at h2
  exact h2

theorem ru_right : ∀ L, ∀ x ∈ M.ru L, M.right (x.1 : Int) = true := by
  refine M.ru_ind (by simp [M.ru_nil]) ?_
  intro L h ih x hx
  rw [M.ru_cons L h] at hx
  rcases List.mem_cons.1 hx with rfl | hx
  · exact M.d0_right L
  · exact ih x hx
theorem turn_right (s : ByteArray) (z : Int) (hz : z ∈ M.rn s) : M.right z = true := by
  rw [M.rn_ru] at hz
  obtain ⟨x, hx, rfl⟩ := List.mem_map.1 hz
  exact ru_right _ x hx

theorem turn_two (s : ByteArray) : ((runesBytes (M.rn s)).toList == s.toList) = ((M.sp s.data.toList : Int) == 0) := by
  rw [ByteArray.toList_eq, ByteArray.toList_eq, Bool.eq_iff_iff]
  simp only [beq_iff_eq]
  constructor
  · intro h
    have h1 := (turn_one (M.rn s) (fun z hz => turn_right s z hz)).2
    rw [h] at h1
    omega
  · intro h
    rw [runesBytes_list, M.rn_ru, List.flatMap_map]
    exact M.enc_ru _ (by omega)

set_option maxHeartbeats 1000000 in
theorem law_turn (v : Value) (zs : List Int) (s : ByteArray) (w : World) (R : L.Rd w v .i32 zs) (hl : zs.length ≤ 1073741824) (hs : s.size ≤ 1073741824) :
    Calls Try.prog 4 #[v, .string s] w fun e w' => e = .returned (.bool true) ∧ Below w.heap.size w w' := by
  by_cases hall : ∀ z ∈ zs, M.right z = true
  · have HT1 : Hid (M.rn (runesBytes zs) = zs) := (turn_one zs hall).1
    have HT2 : Hid (M.sp (runesBytes zs).data.toList = 0) := (turn_one zs hall).2
    have hsz := runesBytes_size_le zs
    go_enter Try.func4, Try.ntmps4
    go_wp2_with (go_at_call 16; go_must (refine (alive_any _).mono ?_; rintro e w1 ⟨rfl, hb1⟩))
    have R1 := R.below hb1 (Nat.le_refl _)
    refine (encode_yes w1 v zs R1 (by omega) hall).mono ?_
    rintro e w2 ⟨rfl, rfl⟩
    go_wp2_with fail
    refine (decode_any (runesBytes zs) _ (by omega)).mono ?_
    rintro e w3 ⟨v3, rfl, own3, hb3⟩
    have R3 := L.Rd.of_owns own3
    rw [HT1.out] at R3
    go_wp2_with fail
    refine (same_any w3 v3 v zs zs R3 (R1.below hb3 (Nat.le_refl _)) (by omega) (by omega)).mono ?_
    rintro e w4 ⟨rfl, hb4⟩
    rw [decide_eq_true rfl]
    clear own3 R3 R1
    go_wp2_with fail
    refine (spoilt_any (runesBytes zs) _ (by omega)).mono ?_
    rintro e w4' ⟨rfl, hb4'⟩
    rw [HT2.out]
    have HB : Hid (Below w.heap.size w w4') := by
      have z1 := hb1.size
      have z3 := hb3.size
      have z4 := hb4.size
      exact ((hb1.trans (hb3.mono z1)).trans (hb4.mono (by omega))).trans (hb4'.mono (by omega))
    clear hb1 hb3 hb4 hb4' hall
    go_wp2_with fail
    refine (decode_any s _ (by omega)).mono ?_
    rintro e w5 ⟨v5, rfl, own5, hb5⟩
    go_wp2_with fail
    refine (encode_yes w5 v5 (M.rn s) (L.Rd.of_owns own5) (by have := M.rn_length s; omega) (fun z hz => turn_right s z hz)).mono ?_
    rintro e w6 ⟨rfl, rfl⟩
    clear own5
    have HT : Hid (((runesBytes (M.rn s)).toList == s.toList) = ((M.sp s.data.toList : Int) == 0)) := turn_two s
    go_wp2_with fail
    refine (spoilt_any s _ (by omega)).mono ?_
    rintro e w7 ⟨rfl, hb7⟩
    go_wp2_with fail
    go_ret
    refine ⟨L.ret_bool (by rw [HT.out]; simp), ?_⟩
    have z5 := hb5.size
    exact (HB.out.trans (hb5.mono HB.out.size)).trans (hb7.mono (by have := HB.out.size; omega))
  · have hno : ∃ z ∈ zs, M.right z = false := by
      apply Classical.byContradiction
      intro h
      apply hall
      intro z hz
      cases hb : M.right z with
      | true => rfl
      | false => exact absurd ⟨z, hz, hb⟩ h
    clear hall
    go_enter Try.func4, Try.ntmps4
    go_wp2_with (go_at_call 16; go_must (refine (alive_any _).mono ?_; rintro e w1 ⟨rfl, hb1⟩))
    have R1 := R.below hb1 (Nat.le_refl _)
    refine (encode_no w1 v zs R1 (by omega) hno).mono ?_
    rintro e w2 ⟨rfl, rfl⟩
    have HB : Hid (Below w.heap.size w w2) := hb1
    clear hb1 R1
    go_wp2_with fail
    refine (decode_any s _ (by omega)).mono ?_
    rintro e w5 ⟨v5, rfl, own5, hb5⟩
    go_wp2_with fail
    refine (encode_yes w5 v5 (M.rn s) (L.Rd.of_owns own5) (by have := M.rn_length s; omega) (fun z hz => turn_right s z hz)).mono ?_
    rintro e w6 ⟨rfl, rfl⟩
    clear own5
    have HT : Hid (((runesBytes (M.rn s)).toList == s.toList) = ((M.sp s.data.toList : Int) == 0)) := turn_two s
    go_wp2_with fail
    refine (spoilt_any s _ (by omega)).mono ?_
    rintro e w7 ⟨rfl, hb7⟩
    go_wp2_with fail
    go_ret
    refine ⟨L.ret_bool (by rw [HT.out]; simp), ?_⟩
    have z5 := hb5.size
    exact (HB.out.trans (hb5.mono HB.out.size)).trans (hb7.mono (by have := HB.out.size; omega))

end Go.Proofs.Ytefnjdgjbgmmeaa
