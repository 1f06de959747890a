/-
  What runes.Encode answers of any slice of at most 2^40 runes: the text of them, or, where one is not right, ErrRange.
-/
import Derived.Test.YtefnjdgjbgmmeaaRight
import Derived.Test.YtefnjdgjbgmmeaaUni2
namespace Go.Proofs.Ytefnjdgjbgmmeaa
open Go.RowKit

theorem foldl_bytes : ∀ (ns : List Int) (r : ByteArray), (ns.foldl (fun r n => r ++ Utf8.encode n) r).data.toList = r.data.toList ++ ns.flatMap fun n => M.enc n
  | [], r => by simp
  | n :: ns, r => by
    rw [List.foldl_cons, foldl_bytes ns, ByteArray.data_append, Array.toList_append, List.flatMap_cons, List.append_assoc]
    rfl
theorem runesBytes_list (ns : List Int) : (runesBytes ns).data.toList = ns.flatMap fun n => M.enc n := by
  have h := foldl_bytes ns ByteArray.empty
  have e : ByteArray.empty.data.toList = ([] : List UInt8) := rfl
  rw [e, List.nil_append] at h
  exact h

theorem convert_rd {P : Program} {w : World} {ao : Option Addr} {cap : Nat} {zs : List Int} (src dst e : TypeId)
    (hs : P.underlying src = some (.slice e)) (he : P.underlying e = some (.int .i32)) (hd : P.underlying dst = some .string)
    (hn : ao = none → cap = 0) (hc : zs ≠ [] → ∃ b off, ao = some ⟨b, off, none⟩ ∧ ∀ j z, zs[j]? = some z → w.cell? ⟨b, off + j, none⟩ = some (.int .i32 z)) :
    (convert src dst (.slice ao zs.length cap)).run P w = .ok (.string (runesBytes zs)) w := by
  cases ao with
  | none =>
    have h0 : zs = [] := by
      cases zs with
      | nil => rfl
      | cons z zs => obtain ⟨b, off, h, _⟩ := hc (by simp); simp at h
    subst h0
    exact run_convert_runes_nil w src dst e _ _ hs he hd
  | some ad =>
    have h := run_convert_runes (P := P) w src dst e ad zs.length cap zs (Nat.le_refl _) hs he hd (fun j hj => by
      obtain ⟨b, off, hao, hcell⟩ := hc (by intro h; subst h; simp at hj)
      simp at hao
      subst hao
      rw [L.addr_add]
      exact hcell j _ (by simp [List.getD, hj]))
    rw [List.take_length] at h
    exact h

set_option maxHeartbeats 400000 in
theorem encode_yes (w : World) (v : Value) (zs : List Int) (R : L.Rd w v .i32 zs) (hl : zs.length ≤ 1099511627776) (hall : ∀ z ∈ zs, M.right z = true) :
    Calls Try.prog 14 #[v] w fun e w' => e = .returned (.tuple #[.string (runesBytes zs), .int .i64 0]) ∧ w' = w := by
  obtain ⟨ao, cap, rfl, hn, hc⟩ := R
  have hcv := convert_rd (P := Try.prog) (w := w) 22 9 21 Try.underlying22 Try.underlying21 Try.underlying9 hn hc
  go_enter Try.func14, Try.ntmps14
  go_wp2
  go_loop [8] (fun i => ∃ k : Nat, k ≤ zs.length ∧ i = .int .i64 k) (fun i => zs.length - (intOf i).toNat)
  case atStart => exact ⟨0, Nat.zero_le _, rfl⟩
  case round =>
    obtain ⟨k, hk, rfl⟩ := hrel
    by_cases hlt : k < zs.length
    · obtain ⟨b, off, rfl, hcell⟩ := hc (by intro h; subst h; simp at hlt)
      obtain ⟨x, hx⟩ : ∃ x, zs[k]? = some x := ⟨zs[k], by simp [hlt]⟩
      have c1 := hcell k x hx
      have HR : Hid (M.right x = true) := hall x (List.mem_of_getElem? hx)
      clear hcv hcell hx hc
      go_wp2_with (go_at_call 12; go_must (refine (right_any _ _).mono ?_; rintro e w' ⟨rfl, rfl⟩; rw [HR.out]))
      go_round
      case rel => exact ⟨k + 1, by omega, by go_num⟩
      case measure => simp [intOf]; omega
    · go_wp2
      go_ret2
      exact ⟨rfl, rfl⟩

set_option maxHeartbeats 400000 in
theorem encode_no (w : World) (v : Value) (zs : List Int) (R : L.Rd w v .i32 zs) (hl : zs.length ≤ 1099511627776) (hno : ∃ z ∈ zs, M.right z = false) :
    Calls Try.prog 14 #[v] w fun e w' => e = .returned (.tuple #[.string .empty, .int .i64 3]) ∧ w' = w := by
  obtain ⟨ao, cap, rfl, hn, hc⟩ := R
  go_enter Try.func14, Try.ntmps14
  go_wp2
  go_loop [8] (fun i => ∃ k : Nat, k ≤ zs.length ∧ i = .int .i64 k ∧ ∀ z ∈ zs.take k, M.right z = true) (fun i => zs.length - (intOf i).toNat)
  case atStart => exact ⟨0, Nat.zero_le _, rfl, by simp⟩
  case round =>
    obtain ⟨k, hk, rfl, hr⟩ := hrel
    by_cases hlt : k < zs.length
    · obtain ⟨b, off, rfl, hcell⟩ := hc (by intro h; subst h; simp at hlt)
      obtain ⟨x, hx⟩ : ∃ x, zs[k]? = some x := ⟨zs[k], by simp [hlt]⟩
      have c1 := hcell k x hx
      have HX : Hid (zs[k]? = some x) := hx
      have HA : Hid (∀ z ∈ zs.take k, M.right z = true) := hr
      clear hcell hx hc hr hno
      cases hb : M.right x with
      | true =>
        have HR : Hid (M.right x = true) := hb
        clear hb
        go_wp2_with (go_at_call 12; go_must (refine (right_any _ _).mono ?_; rintro e w' ⟨rfl, rfl⟩; rw [HR.out]))
        go_round
        case rel =>
          refine ⟨k + 1, by omega, by go_num, ?_⟩
          intro z hz
          rw [List.take_add_one, HX.out] at hz
          rcases List.mem_append.1 hz with h | h
          · exact HA.out z h
          · simp at h; subst h; exact HR.out
        case measure => simp [intOf]; omega
      | false =>
        have HR : Hid (M.right x = false) := hb
        clear hb
        go_wp2_with (go_at_call 12; go_must (refine (right_any _ _).mono ?_; rintro e w' ⟨rfl, rfl⟩; rw [HR.out]))
        go_ret2
        exact ⟨rfl, rfl⟩
    · exfalso
      obtain ⟨z, hz, hb⟩ := hno
      rw [List.take_of_length_le (by omega)] at hr
      rw [hr z hz] at hb
      exact absurd hb (by decide)

end Go.Proofs.Ytefnjdgjbgmmeaa
