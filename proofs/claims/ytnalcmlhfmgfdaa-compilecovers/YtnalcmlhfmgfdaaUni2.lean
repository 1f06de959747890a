/-
  UTF-8 once more, over lists of bytes: what is encoded is decoded; what is not spoilt is encoded again to what it was; a spoilt byte is told from a written U+FFFD by its bytes; no program is named here.
-/
import Derived.Test.YtnalcmlhfmgfdaaUni
namespace Go.Proofs.Ytnalcmlhfmgfdaa.M

def enc (r : Int) : List UInt8 := (Utf8.encode r).data.toList

theorem right_valid (r : Int) : Utf8.valid r = right r := by
  unfold Utf8.valid right
  rw [Bool.eq_iff_iff]
  simp
  omega

set_option maxRecDepth 100000 in
/-- the bytes of a right rune, by its size -/
theorem enc_eq (r : Nat) (h : right (r : Int) = true) : enc (r : Int) =
    if r < 128 then [UInt8.ofNat r] else if r < 2048 then [UInt8.ofNat (192 + r / 64), UInt8.ofNat (128 + r % 64)]
    else if r < 65536 then [UInt8.ofNat (224 + r / 4096), UInt8.ofNat (128 + r / 64 % 64), UInt8.ofNat (128 + r % 64)]
    else [UInt8.ofNat (240 + r / 262144), UInt8.ofNat (128 + r / 4096 % 64), UInt8.ofNat (128 + r / 64 % 64), UInt8.ofNat (128 + r % 64)] := by
  unfold enc Utf8.encode
  simp only [right_valid, h, if_true, Int.toNat_natCast]
  by_cases h1 : r < 128
  · rw [if_pos h1, if_pos h1]
  · by_cases h2 : r < 2048
    · rw [if_neg h1, if_neg h1, if_pos h2, if_pos h2]
    · by_cases h3 : r < 65536
      · rw [if_neg h1, if_neg h1, if_neg h2, if_neg h2, if_pos h3, if_pos h3]
      · rw [if_neg h1, if_neg h1, if_neg h2, if_neg h2, if_neg h3, if_neg h3]

theorem u8 (n : Nat) (h : n < 256) : (UInt8.ofNat n).toNat = n := by simp; omega
theorem u8_eq (n : Nat) (a : UInt8) (h : n = a.toNat) : UInt8.ofNat n = a := by subst h; simp

theorem right_bd {r : Nat} (h : right (r : Int) = true) : r ≤ 1114111 ∧ (r < 55296 ∨ 57343 < r) := by
  unfold right at h
  simp at h
  omega

set_option maxHeartbeats 1000000 in
theorem d0_enc (r : Nat) (h : right (r : Int) = true) (M : List UInt8) : d0 (enc r ++ M) = (r, (enc r).length) := by
  have hr := right_bd h
  rw [enc_eq r h]
  by_cases h1 : r < 128
  · simp only [h1, if_true, List.cons_append, List.nil_append]
    simp only [d0, bt, List.getElem?_cons_zero, Option.getD_some, u8 r (by omega), Lib.decodeN, h1, if_true, List.length_cons, List.length_nil]
  · by_cases h2 : r < 2048
    · simp only [h1, h2, if_true, if_false, List.cons_append, List.nil_append]
      simp only [d0, bt, List.getElem?_cons_zero, List.getElem?_cons_succ, Option.getD_some, u8 (192 + r / 64) (by omega), u8 (128 + r % 64) (by omega), Lib.decodeN, List.length_cons, List.length_nil]
      rw [if_neg (by omega), if_pos (by omega), if_pos (by omega)]
      congr 1; omega
    · by_cases h3 : r < 65536
      · simp only [h1, h2, h3, if_true, if_false, List.cons_append, List.nil_append]
        simp only [d0, bt, List.getElem?_cons_zero, List.getElem?_cons_succ, Option.getD_some, u8 (224 + r / 4096) (by omega), u8 (128 + r / 64 % 64) (by omega), u8 (128 + r % 64) (by omega), Lib.decodeN, List.length_cons, List.length_nil]
        rw [if_neg (by omega), if_neg (by omega), if_pos (by omega), if_pos (by omega)]
        congr 1; omega
      · simp only [h1, h2, h3, if_false, List.cons_append, List.nil_append]
        simp only [d0, bt, List.getElem?_cons_zero, List.getElem?_cons_succ, Option.getD_some, u8 (240 + r / 262144) (by omega), u8 (128 + r / 4096 % 64) (by omega), u8 (128 + r / 64 % 64) (by omega), u8 (128 + r % 64) (by omega), Lib.decodeN, List.length_cons, List.length_nil]
        rw [if_neg (by omega), if_neg (by omega), if_neg (by omega), if_pos (by omega), if_pos (by omega)]
        congr 1; omega

theorem enc_len (r : Nat) (h : right (r : Int) = true) : 1 ≤ (enc r).length ∧ (128 ≤ r → 2 ≤ (enc r).length) := by
  rw [enc_eq r h]
  repeat' split
  all_goals simp
  all_goals omega

/-- WHAT IS ENCODED IS DECODED -/
theorem ru_enc : ∀ l : List Nat, (∀ r ∈ l, right (r : Int) = true) → (ru (l.flatMap fun r : Nat => enc (r : Int))).map (fun x => x.1) = l ∧ sp (l.flatMap fun r : Nat => enc (r : Int)) = 0
  | [], _ => ⟨rfl, rfl⟩
  | r :: l, h => by
    have hr := h r (by simp)
    obtain ⟨i1, i2⟩ := ru_enc l (fun x hx => h x (by simp [hx]))
    have hl := enc_len r hr
    have hd := d0_enc r hr (l.flatMap fun r : Nat => enc (r : Int))
    have hne : enc (r : Int) ++ (l.flatMap fun r : Nat => enc (r : Int)) ≠ [] := by
      intro e
      have := congrArg List.length e
      rw [List.length_append, List.length_nil] at this
      omega
    rw [List.flatMap_cons]
    constructor
    · rw [ru_cons _ hne, hd]
      simp [i1]
    · rw [sp_cons _ hne, hd]
      have hb : bad (r, (enc (r : Int)).length) = false := by
        unfold bad
        simp
        intro e
        have := hl.2 (by omega)
        omega
      rw [hb]
      simp [i2]

set_option maxHeartbeats 1000000 in
theorem d0_right (L : List UInt8) : right ((d0 L).1 : Int) = true := by
  have h0 := bt_lt L 0; have h1 := bt_lt L 1; have h2 := bt_lt L 2; have h3 := bt_lt L 3
  have e : ∀ n : Nat, (n ≤ 1114111 ∧ (n < 55296 ∨ 57343 < n)) → right (n : Int) = true := fun n hn => by unfold right; simp; omega
  unfold d0 Lib.decodeN
  repeat' split
  all_goals apply e
  all_goals simp only
  all_goals omega

theorem bt_cons0 (a : UInt8) (L : List UInt8) : bt (a :: L) 0 = a.toNat := rfl
theorem bt_cons (a : UInt8) (L : List UInt8) (k : Nat) : bt (a :: L) (k + 1) = bt L k := by simp [bt]

set_option maxRecDepth 100000 in
set_option maxHeartbeats 4000000 in
/-- what is not spoilt is encoded again to its bytes -/
theorem enc_d0 (L : List UInt8) (h : L ≠ []) (hb : bad (d0 L) = false) : enc ((d0 L).1 : Int) = L.take (d0 L).2 := by
  have hr := d0_right L
  rw [enc_eq _ hr]
  cases L with
  | nil => exact absurd rfl h
  | cons a L =>
    have g0 := a.toNat_lt
    have e0 : bt (a :: L) 0 = a.toNat := rfl
    unfold d0 at hb hr ⊢
    rw [e0] at hb hr ⊢
    unfold Lib.decodeN at hb hr ⊢
    by_cases c0 : a.toNat < 128
    · simp only [c0, if_true] at *
      simp
    · rw [if_neg c0] at hb hr ⊢
      by_cases c1 : a.toNat / 32 = 6 ∧ (1 < (a :: L).length ∧ bt (a :: L) 1 / 64 = 2)
      · rw [if_pos c1] at hb hr ⊢
        split at hb
        case isFalse => simp [bad] at hb
        case isTrue c =>
          rw [if_pos c] at hr ⊢
          cases L with
          | nil => simp at c1
          | cons b L =>
            have e1 : bt (a :: b :: L) 1 = b.toNat := rfl
            have g1 := b.toNat_lt
            rw [e1] at c1 c hr ⊢
            simp only at hr ⊢
            rw [if_neg (by omega), if_pos (by omega)]
            simp only [List.take_succ_cons, List.take_zero]
            rw [u8_eq _ a (by omega), u8_eq _ b (by omega)]
      · rw [if_neg c1] at hb hr ⊢
        by_cases c2 : a.toNat / 16 = 14 ∧ (1 < (a :: L).length ∧ bt (a :: L) 1 / 64 = 2) ∧ (2 < (a :: L).length ∧ bt (a :: L) 2 / 64 = 2)
        · rw [if_pos c2] at hb hr ⊢
          split at hb
          case isFalse => simp [bad] at hb
          case isTrue c =>
            rw [if_pos c] at hr ⊢
            rcases L with _ | ⟨b, _ | ⟨d, L⟩⟩
            · simp at c2
            · simp at c2
            · have e1 : bt (a :: b :: d :: L) 1 = b.toNat := rfl
              have e2 : bt (a :: b :: d :: L) 2 = d.toNat := rfl
              have g1 := b.toNat_lt
              have g2 := d.toNat_lt
              rw [e1, e2] at c2 c hr ⊢
              simp only at hr ⊢
              rw [if_neg (by omega), if_neg (by omega), if_pos (by omega)]
              simp only [List.take_succ_cons, List.take_zero]
              rw [u8_eq _ a (by omega), u8_eq _ b (by omega), u8_eq _ d (by omega)]
        · rw [if_neg c2] at hb hr ⊢
          by_cases c3 : a.toNat / 8 = 30 ∧ (1 < (a :: L).length ∧ bt (a :: L) 1 / 64 = 2) ∧ (2 < (a :: L).length ∧ bt (a :: L) 2 / 64 = 2) ∧ (3 < (a :: L).length ∧ bt (a :: L) 3 / 64 = 2)
          · rw [if_pos c3] at hb hr ⊢
            split at hb
            case isFalse => simp [bad] at hb
            case isTrue c =>
              rw [if_pos c] at hr ⊢
              rcases L with _ | ⟨b, _ | ⟨d, _ | ⟨f, L⟩⟩⟩
              · simp at c3
              · simp at c3
              · simp at c3
              · have e1 : bt (a :: b :: d :: f :: L) 1 = b.toNat := rfl
                have e2 : bt (a :: b :: d :: f :: L) 2 = d.toNat := rfl
                have e3 : bt (a :: b :: d :: f :: L) 3 = f.toNat := rfl
                have g1 := b.toNat_lt
                have g2 := d.toNat_lt
                have g3 := f.toNat_lt
                rw [e1, e2, e3] at c3 c hr ⊢
                simp only at hr ⊢
                rw [if_neg (by omega), if_neg (by omega), if_neg (by omega)]
                simp only [List.take_succ_cons, List.take_zero]
                rw [u8_eq _ a (by omega), u8_eq _ b (by omega), u8_eq _ d (by omega), u8_eq _ f (by omega)]
          · rw [if_neg c3] at hb
            simp [bad] at hb

/-- WHAT IS NOT SPOILT COMES BACK -/
theorem enc_ru : ∀ L, sp L = 0 → ((ru L).flatMap fun x => enc (x.1 : Int)) = L := by
  refine ru_ind (by simp [ru_nil]) ?_
  intro L h ih hs
  rw [sp_cons L h] at hs
  have hb : bad (d0 L) = false := by
    cases e : bad (d0 L) with
    | false => rfl
    | true => rw [e] at hs; simp at hs
  rw [ru_cons L h, List.flatMap_cons, ih (by omega), enc_d0 L h hb, List.take_append_drop]

/-- a written U+FFFD is told by its bytes -/
theorem bad_pre (L : List UInt8) (h : L ≠ []) (h1 : (d0 L).1 = 65533) : bad (d0 L) = !(decide (3 ≤ L.length) && (L.take 3 == [239, 191, 189])) := by
  cases e : bad (d0 L) with
  | false =>
    have he := enc_d0 L h e
    rw [h1] at he
    have hE : enc ((65533 : Nat) : Int) = [239, 191, 189] := by decide
    rw [hE] at he
    have hw := d0_width L h
    have hl : 3 = min (d0 L).2 L.length := by have := congrArg List.length he; simpa using this
    have h2 : (d0 L).2 = 3 := by
      have : ¬ (d0 L).2 = 4 := by
        intro e4
        rw [e4] at he hw
        have := congrArg List.length he
        simp at this
        omega
      omega
    rw [h2] at he hw
    rw [← he]
    simp [hw.2.2]
  | true =>
    cases hp : decide (3 ≤ L.length) && (L.take 3 == [239, 191, 189]) with
    | false => rfl
    | true =>
      exfalso
      simp only [Bool.and_eq_true, decide_eq_true_eq, beq_iff_eq] at hp
      have hL : L = enc ((65533 : Nat) : Int) ++ L.drop 3 := by
        have hE : enc ((65533 : Nat) : Int) = [239, 191, 189] := by decide
        rw [hE, ← hp.2, List.take_append_drop]
      rw [hL, d0_enc 65533 (by decide)] at e
      exact absurd e (by decide)

end Go.Proofs.Ytnalcmlhfmgfdaa.M
