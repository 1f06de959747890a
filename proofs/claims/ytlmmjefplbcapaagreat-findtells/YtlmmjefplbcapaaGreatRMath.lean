/-
  UTF-8 once more, over lists of bytes: what is encoded is decoded; what is not spoilt is encoded again to what it was; a spoilt byte is told from a written U+FFFD by its bytes; no program is named here.
-/
import Derived.Test.YtlmmjefplbcapaaGreatUni
namespace Go.Proofs.YtlmmjefplbcapaaGreat.M

def enc (r : Int) : List UInt8 := (Utf8.encode r).data.toList

theorem right_valid (r : Int) : Utf8.valid r = right r := by
  unfold Utf8.valid right
  rw [Bool.eq_iff_iff]
  simp
  omega

set_option maxRecDepth 100000 in
/-- the bytes of a right rune, by its size -/
theorem enc_eq (r : Nat) (h : right (r : Int) = true) : enc (r : Int) =
    if r < 128 then [UInt8.ofNat r] else if r < 2048 then [UInt8.ofNat (192 + r / 64), UInt8.ofNat (128 + r % 64)]
    else if r < 65536 then [UInt8.ofNat (224 + r / 4096), UInt8.ofNat (128 + r / 64 % 64), UInt8.ofNat (128 + r % 64)]
    else [UInt8.ofNat (240 + r / 262144), UInt8.ofNat (128 + r / 4096 % 64), UInt8.ofNat (128 + r / 64 % 64), UInt8.ofNat (128 + r % 64)] := by
  unfold enc Utf8.encode
  simp only [right_valid, h, if_true, Int.toNat_natCast]
  by_cases h1 : r < 128
  · rw [if_pos h1, if_pos h1]
  · by_cases h2 : r < 2048
    · rw [if_neg h1, if_neg h1, if_pos h2, if_pos h2]
    · by_cases h3 : r < 65536
      · rw [if_neg h1, if_neg h1, if_neg h2, if_neg h2, if_pos h3, if_pos h3]
      · rw [if_neg h1, if_neg h1, if_neg h2, if_neg h2, if_neg h3, if_neg h3]

theorem u8 (n : Nat) (h : n < 256) : (UInt8.ofNat n).toNat = n := by simp; omega
theorem u8_eq (n : Nat) (a : UInt8) (h : n = a.toNat) : UInt8.ofNat n = a := by subst h; simp

theorem right_bd {r : Nat} (h : right (r : Int) = true) : r ≤ 1114111 ∧ (r < 55296 ∨ 57343 < r) := by
  unfold right at h
  simp at h
  omega

set_option maxHeartbeats 1000000 in
theorem d0_enc (r : Nat) (h : right (r : Int) = true) (M : List UInt8) : d0 (enc r ++ M) = (r, (enc r).length) := by
  have hr := right_bd h
  rw [enc_eq r h]
  by_cases h1 : r < 128
  · simp only [h1, if_true, List.cons_append, List.nil_append]
    simp only [d0, bt, List.getElem?_cons_zero, Option.getD_some, u8 r (by omega), Lib.decodeN, h1, if_true, List.length_cons, List.length_nil]
  · by_cases h2 : r < 2048
    · simp only [h1, h2, if_true, if_false, List.cons_append, List.nil_append]
      simp only [d0, bt, List.getElem?_cons_zero, List.getElem?_cons_succ, Option.getD_some, u8 (192 + r / 64) (by omega), u8 (128 + r % 64) (by omega), Lib.decodeN, List.length_cons, List.length_nil]
      rw [if_neg (by omega), if_pos (by omega), if_pos (by omega)]
      congr 1; omega
    · by_cases h3 : r < 65536
      · simp only [h1, h2, h3, if_true, if_false, List.cons_append, List.nil_append]
        simp only [d0, bt, List.getElem?_cons_zero, List.getElem?_cons_succ, Option.getD_some, u8 (224 + r / 4096) (by omega), u8 (128 + r / 64 % 64) (by omega), u8 (128 + r % 64) (by omega), Lib.decodeN, List.length_cons, List.length_nil]
        rw [if_neg (by omega), if_neg (by omega), if_pos (by omega), if_pos (by omega)]
        congr 1; omega
      · simp only [h1, h2, h3, if_false, List.cons_append, List.nil_append]
        simp only [d0, bt, List.getElem?_cons_zero, List.getElem?_cons_succ, Option.getD_some, u8 (240 + r / 262144) (by omega), u8 (128 + r / 4096 % 64) (by omega), u8 (128 + r / 64 % 64) (by omega), u8 (128 + r % 64) (by omega), Lib.decodeN, List.length_cons, List.length_nil]
        rw [if_neg (by omega), if_neg (by omega), if_neg (by omega), if_pos (by omega), if_pos (by omega)]
        congr 1; omega

theorem enc_len (r : Nat) (h : right (r : Int) = true) : 1 ≤ (enc r).length ∧ (128 ≤ r → 2 ≤ (enc r).length) := by
  rw [enc_eq r h]
  repeat' split
  all_goals simp
  all_goals omega

/-- WHAT IS ENCODED IS DECODED -/
theorem ru_enc : ∀ l : List Nat, (∀ r ∈ l, right (r : Int) = true) → (ru (l.flatMap fun r : Nat => enc (r : Int))).map (fun x => x.1) = l ∧ sp (l.flatMap fun r : Nat => enc (r : Int)) = 0
  | [], _ => ⟨rfl, rfl⟩
  | r :: l, h => by
    have hr := h r (by simp)
    obtain ⟨i1, i2⟩ := ru_enc l (fun x hx => h x (by simp [hx]))
    have hl := enc_len r hr
    have hd := d0_enc r hr (l.flatMap fun r : Nat => enc (r : Int))
    have hne : enc (r : Int) ++ (l.flatMap fun r : Nat => enc (r : Int)) ≠ [] := by
      intro e
      have := congrArg List.length e
      rw [List.length_append, List.length_nil] at this
      omega
    rw [List.flatMap_cons]
    constructor
    · rw [ru_cons _ hne, hd]
      simp [i1]
    · rw [sp_cons _ hne, hd]
      have hb : bad (r, (enc (r : Int)).length) = false := by
        unfold bad
        simp
        intro e
        have := hl.2 (by omega)
        omega
      rw [hb]
      simp [i2]

set_option maxHeartbeats 1000000 in
theorem d0_right (L : List UInt8) : right ((d0 L).1 : Int) = true := by
  have h0 := bt_lt L 0; have h1 := bt_lt L 1; have h2 := bt_lt L 2; have h3 := bt_lt L 3
  have e : ∀ n : Nat, (n ≤ 1114111 ∧ (n < 55296 ∨ 57343 < n)) → right (n : Int) = true := fun n hn => by unfold right; simp; omega
  unfold d0 Lib.decodeN
  repeat' split
  all_goals apply e
  all_goals simp only
  all_goals omega

theorem bt_cons0 (a : UInt8) (L : List UInt8) : bt (a :: L) 0 = a.toNat := rfl
theorem bt_cons (a : UInt8) (L : List UInt8) (k : Nat) : bt (a :: L) (k + 1) = bt L k := by simp [bt]

set_option maxRecDepth 100000 in
set_option maxHeartbeats 4000000 in
/-- what is not spoilt is encoded again to its bytes -/
theorem enc_d0 (L : List UInt8) (h : L ≠ []) (hb : bad (d0 L) = false) : enc ((d0 L).1 : Int) = L.take (d0 L).2 := by
  have hr := d0_right L
  rw [enc_eq _ hr]
  cases L with
  | nil => exact absurd rfl h
  | cons a L =>
    have g0 := a.toNat_lt
    have e0 : bt (a :: L) 0 = a.toNat := rfl
    unfold d0 at hb hr ⊢
    rw [e0] at hb hr ⊢
    unfold Lib.decodeN at hb hr ⊢
    by_cases c0 : a.toNat < 128
    · simp only [c0, if_true] at *
      simp
    · rw [if_neg c0] at hb hr ⊢
      by_cases c1 : a.toNat / 32 = 6 ∧ (1 < (a :: L).length ∧ bt (a :: L) 1 / 64 = 2)
      · rw [if_pos c1] at hb hr ⊢
        split at hb
        case isFalse => simp [bad] at hb
        case isTrue c =>
          rw [if_pos c] at hr ⊢
          cases L with
          | nil => simp at c1
          | cons b L =>
            have e1 : bt (a :: b :: L) 1 = b.toNat := rfl
            have g1 := b.toNat_lt
            rw [e1] at c1 c hr ⊢
            simp only at hr ⊢
            rw [if_neg (by omega), if_pos (by omega)]
            simp only [List.take_succ_cons, List.take_zero]
            rw [u8_eq _ a (by omega), u8_eq _ b (by omega)]
      · rw [if_neg c1] at hb hr ⊢
        by_cases c2 : a.toNat / 16 = 14 ∧ (1 < (a :: L).length ∧ bt (a :: L) 1 / 64 = 2) ∧ (2 < (a :: L).length ∧ bt (a :: L) 2 / 64 = 2)
        · rw [if_pos c2] at hb hr ⊢
          split at hb
          case isFalse => simp [bad] at hb
          case isTrue c =>
            rw [if_pos c] at hr ⊢
            rcases L with _ | ⟨b, _ | ⟨d, L⟩⟩
            · simp at c2
            · simp at c2
            · have e1 : bt (a :: b :: d :: L) 1 = b.toNat := rfl
              have e2 : bt (a :: b :: d :: L) 2 = d.toNat := rfl
              have g1 := b.toNat_lt
              have g2 := d.toNat_lt
              rw [e1, e2] at c2 c hr ⊢
              simp only at hr ⊢
              rw [if_neg (by omega), if_neg (by omega), if_pos (by omega)]
              simp only [List.take_succ_cons, List.take_zero]
              rw [u8_eq _ a (by omega), u8_eq _ b (by omega), u8_eq _ d (by omega)]
        · rw [if_neg c2] at hb hr ⊢
          by_cases c3 : a.toNat / 8 = 30 ∧ (1 < (a :: L).length ∧ bt (a :: L) 1 / 64 = 2) ∧ (2 < (a :: L).length ∧ bt (a :: L) 2 / 64 = 2) ∧ (3 < (a :: L).length ∧ bt (a :: L) 3 / 64 = 2)
          · rw [if_pos c3] at hb hr ⊢
            split at hb
            case isFalse => simp [bad] at hb
            case isTrue c =>
              rw [if_pos c] at hr ⊢
              rcases L with _ | ⟨b, _ | ⟨d, _ | ⟨f, L⟩⟩⟩
              · simp at c3
              · simp at c3
              · simp at c3
              · have e1 : bt (a :: b :: d :: f :: L) 1 = b.toNat := rfl
                have e2 : bt (a :: b :: d :: f :: L) 2 = d.toNat := rfl
                have e3 : bt (a :: b :: d :: f :: L) 3 = f.toNat := rfl
                have g1 := b.toNat_lt
                have g2 := d.toNat_lt
                have g3 := f.toNat_lt
                rw [e1, e2, e3] at c3 c hr ⊢
                simp only at hr ⊢
                rw [if_neg (by omega), if_neg (by omega), if_neg (by omega)]
                simp only [List.take_succ_cons, List.take_zero]
                rw [u8_eq _ a (by omega), u8_eq _ b (by omega), u8_eq _ d (by omega), u8_eq _ f (by omega)]
          · rw [if_neg c3] at hb
            simp [bad] at hb

/-- WHAT IS NOT SPOILT COMES BACK -/
theorem enc_ru : ∀ L, sp L = 0 → ((ru L).flatMap fun x => enc (x.1 : Int)) = L := by
  refine ru_ind (by simp [ru_nil]) ?_
  intro L h ih hs
  rw [sp_cons L h] at hs
  have hb : bad (d0 L) = false := by
    cases e : bad (d0 L) with
    | false => rfl
    | true => rw [e] at hs; simp at hs
  rw [ru_cons L h, List.flatMap_cons, ih (by omega), enc_d0 L h hb, List.take_append_drop]

/-- a written U+FFFD is told by its bytes -/
theorem bad_pre (L : List UInt8) (h : L ≠ []) (h1 : (d0 L).1 = 65533) : bad (d0 L) = !(decide (3 ≤ L.length) && (L.take 3 == [239, 191, 189])) := by
  cases e : bad (d0 L) with
  | false =>
    have he := enc_d0 L h e
    rw [h1] at he
    have hE : enc ((65533 : Nat) : Int) = [239, 191, 189] := by decide
    rw [hE] at he
    have hw := d0_width L h
    have hl : 3 = min (d0 L).2 L.length := by have := congrArg List.length he; simpa using this
    have h2 : (d0 L).2 = 3 := by
      have : ¬ (d0 L).2 = 4 := by
        intro e4
        rw [e4] at he hw
        have := congrArg List.length he
        simp at this
        omega
      omega
    rw [h2] at he hw
    rw [← he]
    simp [hw.2.2]
  | true =>
    cases hp : decide (3 ≤ L.length) && (L.take 3 == [239, 191, 189]) with
    | false => rfl
    | true =>
      exfalso
      simp only [Bool.and_eq_true, decide_eq_true_eq, beq_iff_eq] at hp
      have hL : L = enc ((65533 : Nat) : Int) ++ L.drop 3 := by
        have hE : enc ((65533 : Nat) : Int) = [239, 191, 189] := by decide
        rw [hE, ← hp.2, List.take_append_drop]
      rw [hL, d0_enc 65533 (by decide)] at e
      exact absurd e (by decide)

end Go.Proofs.YtlmmjefplbcapaaGreat.M

/-
  Sets in texts: what Read tells of any runes, and what Print writes: plain functions.
-/
namespace Go.Proofs.YtlmmjefplbcapaaGreat.T
open S (Sp)

/-- how a step of reading ends: with a value, and where it goes on; or with a fault -/
inductive Out (α : Type) where
  | ok (a : α) (p : Nat)
  | bad (e : Int) (p : Nat)

def see (l : List Int) (p : Nat) : Int := (l[p]?).getD (-1)
def blanks : List Int := [32, 9, 10]
def specials : List Int := [32, 9, 10, 91, 93, 38, 45, 94, 92, 58, 36, 40, 41, 123, 125, 60, 62, 124, 59, 35, 39, 34, 61, 44]
def hexes : List Int := [48, 49, 50, 51, 52, 53, 54, 55, 56, 57, 97, 98, 99, 100, 101, 102, 65, 66, 67, 68, 69, 70]
def blank (r : Int) : Bool := decide (r ∈ blanks)
def hexd (r : Int) : Bool := decide (r ∈ hexes)
def ordy (r : Int) : Bool := !decide (r = -1) && !decide (r ∈ specials)
def alnum (r : Int) : Bool := (decide (48 ≤ r) && decide (r ≤ 57)) || (decide (65 ≤ r) && decide (r ≤ 90)) || (decide (97 ≤ r) && decide (r ≤ 122))

def skipW (f : Int → Bool) (l : List Int) (p : Nat) : Nat := p + ((l.drop p).takeWhile f).length

theorem see_lt {l : List Int} {p : Nat} (h : p < l.length) : l[p]? = some (see l p) := by
  unfold see; rw [List.getElem?_eq_getElem h]; rfl
theorem see_ge {l : List Int} {p : Nat} (h : l.length ≤ p) : see l p = -1 := by
  unfold see; rw [List.getElem?_eq_none h]; rfl
theorem see_some {l : List Int} {p : Nat} {r : Int} (h : l[p]? = some r) : see l p = r := by unfold see; rw [h]; rfl

theorem skipW_eq {f : Int → Bool} {l : List Int} : ∀ {p k : Nat}, p ≤ k → k ≤ l.length → (∀ i, p ≤ i → i < k → f (see l i) = true) → f (see l k) = false → f (-1) = false → skipW f l p = k := by
  intro p k hp hk h1 h2 _
  obtain ⟨n, rfl⟩ : ∃ n, k = p + n := ⟨k - p, by omega⟩
  clear hp
  induction n generalizing p with
  | zero =>
    unfold skipW
    by_cases hlt : p < l.length
    · have : l.drop p = see l p :: l.drop (p + 1) := by
        rw [List.drop_eq_getElem_cons hlt]; congr 1; have := see_lt hlt; rw [List.getElem?_eq_getElem hlt] at this; exact Option.some.inj this
      rw [this, List.takeWhile_cons, if_neg (by rw [show see l p = see l (p + 0) from rfl, h2]; simp)]; rfl
    · rw [List.drop_eq_nil_of_le (by omega)]; rfl
  | succ n ih =>
    have hlt : p < l.length := by omega
    have hd : l.drop p = see l p :: l.drop (p + 1) := by
      rw [List.drop_eq_getElem_cons hlt]; congr 1; have := see_lt hlt; rw [List.getElem?_eq_getElem hlt] at this; exact Option.some.inj this
    have hi := ih (p := p + 1) (by omega) (fun i h3 h4 => h1 i (by omega) (by omega)) (by rw [show p + 1 + n = p + (n + 1) by omega]; exact h2)
    unfold skipW at hi ⊢
    rw [hd, List.takeWhile_cons, if_pos (h1 p (Nat.le_refl _) (by omega)), List.length_cons]
    omega

theorem skipW_ge (f : Int → Bool) (l : List Int) (p : Nat) : p ≤ skipW f l p := by unfold skipW; omega
theorem skipW_le {f : Int → Bool} {l : List Int} {p : Nat} (h : p ≤ l.length) : skipW f l p ≤ l.length := by
  unfold skipW
  have := (List.takeWhile_sublist f (l := l.drop p)).length_le
  rw [List.length_drop] at this
  omega
theorem skipW_here {f : Int → Bool} {l : List Int} {p : Nat} (h : p ≤ l.length) (h0 : f (-1) = false) (h2 : f (see l p) = false) : skipW f l p = p :=
  skipW_eq (Nat.le_refl _) h (fun i h1 h2 => by omega) h2 h0

/-- digits of base sixteen -/
def hexOne (r : Int) : Int := if r ≤ 57 then r - 48 else if r ≤ 70 then r - 55 else r - 87
def hexN (l : List Int) : Int := l.foldl (fun x r => 16 * x + hexOne r) 0

def cut (l : List Int) (p q : Nat) : List Int := (l.drop p).take (q - p)

/-- `u{..}`, at `u` -/
def num (l : List Int) (p : Nat) : Out Int :=
  if see l (p + 1) ≠ 123 then .bad 2 (p + 1)
  else if skipW hexd l (p + 2) - (p + 2) < 1 ∨ 6 < skipW hexd l (p + 2) - (p + 2) then .bad 2 (p + 2)
  else if see l (skipW hexd l (p + 2)) ≠ 125 then .bad 2 (skipW hexd l (p + 2))
  else if 1114111 < hexN (cut l (p + 2) (skipW hexd l (p + 2))) then .bad 3 p
  else .ok (hexN (cut l (p + 2) (skipW hexd l (p + 2)))) (skipW hexd l (p + 2) + 1)

/-- what follows a backslash -/
def esc (l : List Int) (p : Nat) : Out Int :=
  if see l p = 117 then num l p
  else if see l p = 110 then .ok 10 (p + 1)
  else if see l p = 116 then .ok 9 (p + 1)
  else if see l p = -1 ∨ alnum (see l p) = true then .bad 2 p
  else .ok (see l p) (p + 1)

def chr (l : List Int) (p : Nat) : Out Int :=
  if see l p = 92 then esc l (p + 1)
  else if ordy (see l p) = true then .ok (see l p) (p + 1)
  else .bad 2 p

def span (l : List Int) (p : Nat) : Out Sp :=
  match chr l p with
  | .bad e q => .bad e q
  | .ok lo q =>
    if see l q ≠ 45 ∨ see l (q + 1) = 91 then .ok (lo, lo) q
    else match chr l (q + 1) with
      | .bad e r => .bad e r
      | .ok hi r => if hi < lo then .bad 3 (q + 1) else .ok (lo, hi) r

def classOf (n : List Int) : Option (List Sp) :=
  if n = [100, 105, 103, 105, 116] then some [(48, 57)]
  else if n = [108, 111, 119, 101, 114] then some [(97, 122), (223, 246), (248, 255)]
  else if n = [117, 112, 112, 101, 114] then some [(65, 90), (192, 214), (216, 222)]
  else if n = [108, 101, 116, 116, 101, 114] then some [(65, 90), (97, 122), (192, 214), (216, 246), (248, 255)]
  else if n = [118, 111, 119, 101, 108] then some [(65, 65), (69, 69), (73, 73), (79, 79), (85, 85), (97, 97), (101, 101), (105, 105), (111, 111), (117, 117)]
  else if n = [103, 114, 101, 101, 107] then some [(880, 1023)]
  else if n = [99, 121, 114, 105, 108, 108, 105, 99] then some [(1024, 1279)]
  else if n = [115, 112, 97, 99, 101] then some [(9, 10), (32, 32)]
  else if n = [97, 110, 121] then some [(0, 1114111)]
  else none

/-- a class, at its `[` -/
def cls (l : List Int) (p : Nat) : Out (List Sp) :=
  match classOf (cut l (p + 2) (skipW ordy l (p + 2))) with
  | none => .bad 7 (p + 2)
  | some s =>
    if see l (skipW ordy l (p + 2)) ≠ 58 then .bad 2 (skipW ordy l (p + 2))
    else if see l (skipW ordy l (p + 2) + 1) ≠ 93 then .bad 2 (skipW ordy l (p + 2) + 1)
    else .ok s (skipW ordy l (p + 2) + 2)

noncomputable def made (P : Int → Bool) (p : Nat) : Out (List Sp) := if 200 < (S.nf P).length then .bad 5 p else .ok (S.nf P) p

noncomputable def part (sub : Nat → Out (List Sp)) (l : List Int) (s : List Sp) (p : Nat) : Out (List Sp) :=
  if see l p = 38 then
    match sub (skipW blank l (p + 1)) with
    | .bad e q => .bad e q
    | .ok t q => made (S.andP s t) q
  else if see l p = 45 then
    match sub (skipW blank l (p + 1)) with
    | .bad e q => .bad e q
    | .ok t q => made (S.minP s t) q
  else if see l p = 91 ∧ see l (p + 1) = 58 then
    match cls l p with
    | .bad e q => .bad e q
    | .ok t q => made (S.orP s t) q
  else if see l p = 91 then
    match sub p with
    | .bad e q => .bad e q
    | .ok t q => made (S.orP s t) q
  else
    match span l p with
    | .bad e q => .bad e q
    | .ok x q => made (S.orP s [x]) q

noncomputable def loop : Nat → (Nat → Out (List Sp)) → List Int → List Sp → Nat → Out (List Sp)
  | 0, _, _, _, p => .bad 0 p
  | f + 1, sub, l, s, p =>
    if see l p = 93 then .ok s (p + 1)
    else match part sub l s p with
      | .bad e q => .bad e q
      | .ok t q => loop f sub l t (skipW blank l q)

/-- a set, n sets deep at most, that one among them -/
noncomputable def setN : Nat → List Int → Nat → Out (List Sp)
  | 0, l, p => if see l p ≠ 91 then .bad 2 p else .bad 4 p
  | n + 1, l, p =>
    if see l p ≠ 91 then .bad 2 p
    else if see l (p + 1) = 94 then
      match loop (l.length + 1) (setN n l) l [] (skipW blank l (p + 2)) with
      | .bad e q => .bad e q
      | .ok s q => made (S.notP s) q
    else loop (l.length + 1) (setN n l) l [] (skipW blank l (p + 1))

noncomputable def whole (l : List Int) : Out (List Sp) :=
  match setN 20 l (skipW blank l 0) with
  | .bad e q => .bad e q
  | .ok s q => if see l (skipW blank l q) = -1 then .ok s q else .bad 2 (skipW blank l q)

noncomputable def read (l : List Int) : Out (List Sp) := if 4000 < l.length then .bad 4 0 else whole l

/-- digits -/
def dig (d : Nat) : UInt8 := if d < 10 then UInt8.ofNat (48 + d) else UInt8.ofNat (87 + d)
def hexL (n : Nat) : List UInt8 := if n < 16 then [dig n] else hexL (n / 16) ++ [dig (n % 16)]
termination_by n
decreasing_by omega

def plain (r : Int) : Bool := alnum r || (M.right r && decide (126 < r))
def quo (r : Int) : List UInt8 := if plain r = true then M.enc r else [92, 117, 123] ++ hexL r.toNat ++ [125]
def one (x : Sp) : List UInt8 := quo x.1 ++ if x.1 < x.2 then [45] ++ quo x.2 else []
def inner (s : List Sp) : List UInt8 := s.flatMap one
def prt (s : List Sp) : List UInt8 := [91] ++ inner s ++ [93]

theorem inner_snoc (s : List Sp) (x : Sp) : inner (s ++ [x]) = inner s ++ one x := by simp [inner]

theorem hexL_small {n : Nat} (h : n < 16) : hexL n = [dig n] := by rw [hexL, if_pos h]
theorem hexL_big {n : Nat} (h : ¬ n < 16) : hexL n = hexL (n / 16) ++ [dig (n % 16)] := by rw [hexL, if_neg h]
theorem hexL_len {n : Nat} : ∀ {k : Nat}, n < 16 ^ (k + 1) → (hexL n).length ≤ k + 1 := by
  intro k
  induction k generalizing n with
  | zero => intro h; rw [hexL_small (by simpa using h)]; simp
  | succ k ih =>
    intro h
    by_cases hs : n < 16
    · rw [hexL_small hs]; simp
    · rw [hexL_big hs, List.length_append]
      have := ih (n := n / 16) (by rw [Nat.div_lt_iff_lt_mul (by omega)]; rw [Nat.pow_succ] at h; exact h)
      simp; omega

end Go.Proofs.YtlmmjefplbcapaaGreat.T

/-
  Files of rules: what is wrong with parts, and how they are written: plain functions.
-/
namespace Go.Proofs.YtlmmjefplbcapaaGreat.R
open S (Sp)

structure Item where
  kind : Int
  rune : Int
  set : List Sp
  name : ByteArray

structure Side where
  start : Bool
  fin : Bool
  before : List Item
  source : List Item
  after : List Item
  cursor : Int

structure Part where
  kind : Int
  name : ByteArray
  set : List Sp
  dir : Int
  left : Side
  right : Side

def letter (r : Int) : Bool := (decide (97 ≤ r) && decide (r ≤ 122)) || decide (r = 95)
def digit (r : Int) : Bool := decide (48 ≤ r) && decide (r ≤ 57)

/-- bytes of a name, of which the first one stands at place i -/
def good (i : Nat) (b : UInt8) : Bool := letter b.toNat || (decide (i ≠ 0) && digit b.toNat)
def goodFrom : Nat → List UInt8 → Bool
  | _, [] => true
  | i, b :: l => good i b && goodFrom (i + 1) l
def named (s : ByteArray) : Bool := goodFrom 0 s.data.toList && decide (0 < s.size) && decide (s.size ≤ 20)

def passes (s : ByteArray) : Bool := decide (s.toList = [108, 111, 119, 101, 114] ∨ s.toList = [110, 117, 108, 108] ∨ s.toList = [114, 101, 109, 111, 118, 101] ∨ s.toList = [117, 112, 112, 101, 114])

def itemE (x : Item) : Int :=
  if x.kind = 1 then (if M.right x.rune = true then 0 else 3)
  else if x.kind = 2 then S.wrongE x.set
  else if x.kind = 3 then (if named x.name = true then 0 else 7)
  else 1

def firstE : List Int → Int
  | [] => 0
  | e :: l => if e = 0 then firstE l else e

def itemsE (l : List Item) : Int := if 20 < l.length then 5 else firstE (l.map itemE)

def sideE (s : Side) (must : Bool) : Int :=
  if itemsE s.before ≠ 0 then itemsE s.before
  else if itemsE s.source ≠ 0 then itemsE s.source
  else if itemsE s.after ≠ 0 then itemsE s.after
  else if s.cursor < -1 ∨ (s.source.length : Int) < s.cursor then 3
  else if must = true ∧ s.source.length = 0 then 6
  else 0

def gives (s : Side) : Bool := s.source.all fun x => decide (x.kind = 1)
def around (s : Side) : Bool := s.start || s.fin || decide (0 < s.before.length) || decide (0 < s.after.length)
def fits (p : Part) : Bool :=
  if p.dir = 1 then gives p.right && !around p.right && decide (p.left.cursor < 0)
  else if p.dir = 2 then gives p.left && !around p.left && decide (p.right.cursor < 0)
  else gives p.left && gives p.right
def ruleE (p : Part) : Int :=
  if p.dir ≠ 1 ∧ p.dir ≠ 2 ∧ p.dir ≠ 3 then 1
  else if sideE p.left (decide (p.dir ≠ 2)) ≠ 0 then sideE p.left (decide (p.dir ≠ 2))
  else if sideE p.right (decide (p.dir ≠ 1)) ≠ 0 then sideE p.right (decide (p.dir ≠ 1))
  else if fits p = true then 0 else 8
def partE (p : Part) : Int :=
  if p.kind = 1 then (if named p.name = true then S.wrongE p.set else 7)
  else if p.kind = 3 then S.wrongE p.set
  else if p.kind = 4 then (if passes p.name = true then 0 else 7)
  else if p.kind = 2 then ruleE p
  else 1

/-- the first part with which something is wrong, counted from i on -/
def firstW : Nat → List Part → Int × Nat
  | _, [] => (0, 0)
  | i, p :: l => if partE p = 0 then firstW (i + 1) l else (partE p, i)
def wrong (l : List Part) : Int × Nat := if 200 < l.length then (5, 0) else firstW 0 l

/-- how things are written -/
def setB (s : List Sp) : List UInt8 := if S.wrongE s = 0 then T.prt s else []
def itemB (x : Item) : List UInt8 :=
  if x.kind = 2 then setB x.set
  else if x.kind = 3 then 36 :: x.name.data.toList
  else T.quo x.rune
def bar : List UInt8 := [124, 32]
def itemsB : List Item → Int → List UInt8
  | [], c => if c = 0 then bar else []
  | x :: l, c => (if c = 0 then bar else []) ++ (itemB x ++ [32]) ++ itemsB l (c - 1)
def sideB (s : Side) : List UInt8 :=
  (if s.start = true then [94, 32] else []) ++ itemsB s.before (-1) ++ (if s.start = true ∨ 0 < s.before.length then [123, 32] else []) ++
    itemsB s.source s.cursor ++ (if s.fin = true ∨ 0 < s.after.length then [125, 32] else []) ++ itemsB s.after (-1) ++ (if s.fin = true then [36, 32] else [])
def arrowB (d : Int) : List UInt8 := if d = 1 then [62] else if d = 2 then [60] else [60, 62]
def wordsB (p : Part) : List UInt8 :=
  if p.kind = 1 then (36 :: p.name.data.toList) ++ [32] ++ [61, 32] ++ (setB p.set ++ [32])
  else if p.kind = 3 then [58, 58, 32] ++ (setB p.set ++ [32])
  else if p.kind = 4 then [58, 58, 32] ++ (p.name.data.toList ++ [32])
  else if p.kind = 2 then sideB p.left ++ (arrowB p.dir ++ [32]) ++ sideB p.right
  else []
def partB (p : Part) : List UInt8 := wordsB p ++ [59, 10]
def printB (l : List Part) : List UInt8 := l.flatMap partB

theorem firstE_zero {l : List Int} : firstE l = 0 ↔ ∀ e ∈ l, e = 0 := by
  induction l with
  | nil => simp [firstE]
  | cons e l ih =>
    rw [firstE]
    by_cases h : e = 0
    · simp [h, ih]
    · simp [h]
theorem itemsE_zero {l : List Item} : itemsE l = 0 ↔ l.length ≤ 20 ∧ ∀ x ∈ l, itemE x = 0 := by
  unfold itemsE
  by_cases h : 20 < l.length
  · rw [if_pos h]; constructor
    · intro h; cases h
    · intro h; omega
  · rw [if_neg h, firstE_zero]; constructor
    · intro h'; exact ⟨by omega, fun x hx => h' _ (List.mem_map.2 ⟨x, hx, rfl⟩)⟩
    · rintro ⟨_, h'⟩ e he
      obtain ⟨x, hx, rfl⟩ := List.mem_map.1 he
      exact h' x hx
theorem itemsE_drop {l : List Item} {k : Nat} {x : Item} (hx : l[k]? = some x) : firstE ((l.drop k).map itemE) = if itemE x = 0 then firstE ((l.drop (k + 1)).map itemE) else itemE x := by
  have hlt := (List.getElem?_eq_some_iff.1 hx).1
  rw [List.drop_eq_getElem_cons hlt]
  have : l[k] = x := by rw [List.getElem?_eq_getElem hlt] at hx; exact Option.some.inj hx
  rw [this]; rfl
theorem firstW_drop {l : List Part} {k : Nat} {x : Part} (hx : l[k]? = some x) : firstW k (l.drop k) = if partE x = 0 then firstW (k + 1) (l.drop (k + 1)) else (partE x, k) := by
  have hlt := (List.getElem?_eq_some_iff.1 hx).1
  rw [List.drop_eq_getElem_cons hlt]
  have : l[k] = x := by rw [List.getElem?_eq_getElem hlt] at hx; exact Option.some.inj hx
  rw [this]; rfl
theorem firstW_zero {l : List Part} : ∀ {i : Nat}, (firstW i l).1 = 0 → (∀ p ∈ l, partE p = 0) ∧ firstW i l = (0, 0) := by
  induction l with
  | nil => intro i _; exact ⟨by simp, rfl⟩
  | cons p l ih =>
    intro i h
    rw [firstW] at h ⊢
    by_cases hp : partE p = 0
    · rw [if_pos hp] at h ⊢
      have := ih h
      exact ⟨fun q hq => by rcases List.mem_cons.1 hq with rfl | hq; exact hp; exact this.1 q hq, this.2⟩
    · rw [if_neg hp] at h; exact absurd h hp
theorem wrong_zero {l : List Part} (h : (wrong l).1 = 0) : l.length ≤ 200 ∧ (∀ p ∈ l, partE p = 0) ∧ wrong l = (0, 0) := by
  unfold wrong at h ⊢
  by_cases hb : 200 < l.length
  · rw [if_pos hb] at h; cases h
  · rw [if_neg hb] at h ⊢
    have := firstW_zero h
    exact ⟨by omega, this.1, this.2⟩
theorem sideE_zero {s : Side} {m : Bool} (h : sideE s m = 0) : itemsE s.before = 0 ∧ itemsE s.source = 0 ∧ itemsE s.after = 0 ∧ -1 ≤ s.cursor ∧ s.cursor ≤ s.source.length := by
  unfold sideE at h
  by_cases h1 : itemsE s.before = 0
  · rw [if_neg (by simp [h1])] at h
    by_cases h2 : itemsE s.source = 0
    · rw [if_neg (by simp [h2])] at h
      by_cases h3 : itemsE s.after = 0
      · rw [if_neg (by simp [h3])] at h
        by_cases h4 : s.cursor < -1 ∨ (s.source.length : Int) < s.cursor
        · rw [if_pos h4] at h; cases h
        · exact ⟨h1, h2, h3, by omega, by omega⟩
      · rw [if_pos h3] at h; exact absurd h h3
    · rw [if_pos h2] at h; exact absurd h h2
  · rw [if_pos h1] at h; exact absurd h h1
theorem ruleE_zero {p : Part} (h : ruleE p = 0) : (p.dir = 1 ∨ p.dir = 2 ∨ p.dir = 3) ∧ sideE p.left (decide (p.dir ≠ 2)) = 0 ∧ sideE p.right (decide (p.dir ≠ 1)) = 0 ∧ fits p = true := by
  unfold ruleE at h
  by_cases h1 : p.dir ≠ 1 ∧ p.dir ≠ 2 ∧ p.dir ≠ 3
  · rw [if_pos h1] at h; cases h
  · rw [if_neg h1] at h
    by_cases h2 : sideE p.left (decide (p.dir ≠ 2)) = 0
    · rw [if_neg (by rw [h2]; simp)] at h
      by_cases h3 : sideE p.right (decide (p.dir ≠ 1)) = 0
      · rw [if_neg (by rw [h3]; simp)] at h
        by_cases h4 : fits p = true
        · exact ⟨by omega, h2, h3, h4⟩
        · rw [if_neg h4] at h; cases h
      · rw [if_pos h3] at h; exact absurd h h3
    · rw [if_pos h2] at h; exact absurd h h2

theorem itemsB_neg {l : List Item} : ∀ {c : Int}, c < 0 → itemsB l c = l.flatMap fun x => itemB x ++ [32] := by
  induction l with
  | nil => intro c hc; rw [itemsB, if_neg (by omega)]; rfl
  | cons x l ih => intro c hc; rw [itemsB, if_neg (by omega), ih (by omega)]; simp

end Go.Proofs.YtlmmjefplbcapaaGreat.R
