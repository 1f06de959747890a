/-
  A name's runes and its bytes.
-/
import Derived.Test.YtbepnmmcdllklaaDoorTClass2
namespace Go.Proofs.YtbepnmmcdllklaaDoor
open Go.RowKit

/-- what a rune outside of ASCII is written as begins high -/
theorem enc_high (z : Int) (h : ¬ (0 ≤ z ∧ z < 128)) : ∃ a t, M.enc z = a :: t ∧ 128 ≤ a.toNat := by
  by_cases hr : M.right z = true
  · have hz : 0 ≤ z ∧ z ≤ 1114111 := by
      have := of_decide_eq_true hr
      omega
    obtain ⟨n, rfl⟩ : ∃ n : Nat, z = (n : Int) := ⟨z.toNat, by omega⟩
    rw [M.enc_eq n hr, if_neg (by omega)]
    repeat' split
    all_goals exact ⟨_, _, rfl, by rw [M.u8 _ (by omega)]; omega⟩
  · have e : M.enc z = M.enc ((65533 : Nat) : Int) := by
      have h1 : Utf8.valid z = false := by rw [M.right_valid]; exact Bool.eq_false_iff.2 hr
      have h2 : Utf8.valid ((65533 : Nat) : Int) = true := by decide
      unfold M.enc Utf8.encode
      rw [h1, h2]
      rfl
    rw [e, M.enc_eq 65533 (by decide)]
    exact ⟨_, _, rfl, by decide⟩
theorem enc_low (n : Nat) (h : n < 128) : M.enc (n : Int) = [UInt8.ofNat n] := by
  have hr : M.right (n : Int) = true := by unfold M.right; exact decide_eq_true (by omega)
  rw [M.enc_eq n hr, if_pos (by omega)]
theorem flat_ascii : ∀ (ns : List Nat) (zs : List Int), (∀ n ∈ ns, n < 128) → (zs.flatMap fun z => M.enc z) = ns.map UInt8.ofNat → zs = ns.map Int.ofNat
  | [], [], _, _ => rfl
  | [], z :: zs, _, h => by
    exfalso
    by_cases hz : 0 ≤ z ∧ z < 128
    · obtain ⟨n, rfl⟩ : ∃ n : Nat, z = (n : Int) := ⟨z.toNat, by omega⟩
      rw [List.flatMap_cons, enc_low n (by omega)] at h
      simp at h
    · obtain ⟨a, t, he, _⟩ := enc_high z hz
      rw [List.flatMap_cons, he] at h
      simp at h
  | n :: ns, [], _, h => by simp at h
  | n :: ns, z :: zs, hn, h => by
    have h0 := hn n (by simp)
    by_cases hz : 0 ≤ z ∧ z < 128
    · obtain ⟨m, rfl⟩ : ∃ m : Nat, z = (m : Int) := ⟨z.toNat, by omega⟩
      rw [List.flatMap_cons, enc_low m (by omega), List.map_cons, List.singleton_append, List.cons.injEq] at h
      have e := congrArg UInt8.toNat h.1
      rw [M.u8 _ (by omega), M.u8 _ (by omega)] at e
      subst e
      rw [flat_ascii ns zs (fun x hx => hn x (by simp [hx])) h.2, List.map_cons]
      rfl
    · exfalso
      obtain ⟨a, t, he, ha⟩ := enc_high z hz
      rw [List.flatMap_cons, he, List.map_cons, List.cons_append, List.cons.injEq] at h
      have e := congrArg UInt8.toNat h.1
      rw [M.u8 _ (by omega)] at e
      omega
/-- a name is known by its bytes -/
theorem name_eq (ns : List Nat) (s : ByteArray) (hs : s.data.toList = ns.map UInt8.ofNat) (hn : ∀ n ∈ ns, n < 128) (zs : List Int) : runesBytes zs = s ↔ zs = ns.map Int.ofNat := by
  constructor
  · intro h
    refine flat_ascii ns zs hn ?_
    rw [← hs, ← h, runesBytes_list]
  · rintro rfl
    apply ByteArray.ext
    apply Array.toList_inj.1
    rw [runesBytes_list, hs, List.flatMap_map]
    clear hs
    induction ns with
    | nil => rfl
    | cons n ns ih =>
      have e : M.enc (Int.ofNat n) = [UInt8.ofNat n] := enc_low n (hn n (by simp))
      rw [List.flatMap_cons, e, List.map_cons, ih fun x hx => hn x (by simp [hx])]; rfl

theorem name_digit (zs : List Int) : runesBytes zs = ⟨#[100, 105, 103, 105, 116]⟩ ↔ zs = [100, 105, 103, 105, 116] := name_eq [100, 105, 103, 105, 116] _ rfl (by decide) zs
theorem name_lower (zs : List Int) : runesBytes zs = ⟨#[108, 111, 119, 101, 114]⟩ ↔ zs = [108, 111, 119, 101, 114] := name_eq [108, 111, 119, 101, 114] _ rfl (by decide) zs
theorem name_upper (zs : List Int) : runesBytes zs = ⟨#[117, 112, 112, 101, 114]⟩ ↔ zs = [117, 112, 112, 101, 114] := name_eq [117, 112, 112, 101, 114] _ rfl (by decide) zs
theorem name_letter (zs : List Int) : runesBytes zs = ⟨#[108, 101, 116, 116, 101, 114]⟩ ↔ zs = [108, 101, 116, 116, 101, 114] := name_eq [108, 101, 116, 116, 101, 114] _ rfl (by decide) zs
theorem name_vowel (zs : List Int) : runesBytes zs = ⟨#[118, 111, 119, 101, 108]⟩ ↔ zs = [118, 111, 119, 101, 108] := name_eq [118, 111, 119, 101, 108] _ rfl (by decide) zs
theorem name_greek (zs : List Int) : runesBytes zs = ⟨#[103, 114, 101, 101, 107]⟩ ↔ zs = [103, 114, 101, 101, 107] := name_eq [103, 114, 101, 101, 107] _ rfl (by decide) zs
theorem name_cyrillic (zs : List Int) : runesBytes zs = ⟨#[99, 121, 114, 105, 108, 108, 105, 99]⟩ ↔ zs = [99, 121, 114, 105, 108, 108, 105, 99] := name_eq [99, 121, 114, 105, 108, 108, 105, 99] _ rfl (by decide) zs
theorem name_space (zs : List Int) : runesBytes zs = ⟨#[115, 112, 97, 99, 101]⟩ ↔ zs = [115, 112, 97, 99, 101] := name_eq [115, 112, 97, 99, 101] _ rfl (by decide) zs
theorem name_any (zs : List Int) : runesBytes zs = ⟨#[97, 110, 121]⟩ ↔ zs = [97, 110, 121] := name_eq [97, 110, 121] _ rfl (by decide) zs

/-- a class is known by the bytes of its name -/
theorem names_some (zs : List Int) (x : ByteArray × List S.Sp) (hx : x ∈ T.names) (h : x.1 = runesBytes zs) : T.classOf zs = some x.2 := by
  unfold T.names at hx
  simp only [List.mem_cons, List.not_mem_nil, or_false] at hx
  rcases hx with rfl | rfl | rfl | rfl | rfl | rfl | rfl | rfl | rfl
  · rw [(name_digit zs).1 h.symm]; rfl
  · rw [(name_lower zs).1 h.symm]; rfl
  · rw [(name_upper zs).1 h.symm]; rfl
  · rw [(name_letter zs).1 h.symm]; rfl
  · rw [(name_vowel zs).1 h.symm]; rfl
  · rw [(name_greek zs).1 h.symm]; rfl
  · rw [(name_cyrillic zs).1 h.symm]; rfl
  · rw [(name_space zs).1 h.symm]; rfl
  · rw [(name_any zs).1 h.symm]; rfl
theorem names_none (zs : List Int) (h : ∀ x ∈ T.names, x.1 ≠ runesBytes zs) : T.classOf zs = none := by
  unfold T.classOf
  rw [if_neg fun e => h _ (.head _) ((name_digit zs).2 e).symm]
  rw [if_neg fun e => h _ (.tail _ (.head _)) ((name_lower zs).2 e).symm]
  rw [if_neg fun e => h _ (.tail _ (.tail _ (.head _))) ((name_upper zs).2 e).symm]
  rw [if_neg fun e => h _ (.tail _ (.tail _ (.tail _ (.head _)))) ((name_letter zs).2 e).symm]
  rw [if_neg fun e => h _ (.tail _ (.tail _ (.tail _ (.tail _ (.head _))))) ((name_vowel zs).2 e).symm]
  rw [if_neg fun e => h _ (.tail _ (.tail _ (.tail _ (.tail _ (.tail _ (.head _)))))) ((name_greek zs).2 e).symm]
  rw [if_neg fun e => h _ (.tail _ (.tail _ (.tail _ (.tail _ (.tail _ (.tail _ (.head _))))))) ((name_cyrillic zs).2 e).symm]
  rw [if_neg fun e => h _ (.tail _ (.tail _ (.tail _ (.tail _ (.tail _ (.tail _ (.tail _ (.head _)))))))) ((name_space zs).2 e).symm]
  rw [if_neg fun e => h _ (.tail _ (.tail _ (.tail _ (.tail _ (.tail _ (.tail _ (.tail _ (.tail _ (.head _))))))))) ((name_any zs).2 e).symm]
