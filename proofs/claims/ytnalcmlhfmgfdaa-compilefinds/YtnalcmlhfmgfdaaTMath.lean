/-
  The plain mathematics of UTF-8 over lists of bytes: a text's first rune, joining texts, what is encoded is decoded, what is decoded and not spoilt is encoded; no program is named here.
-/
import Derived.Test.YtnalcmlhfmgfdaaMath
import Derived.Laws.Cover4
import Derived.Test.YtnalcmlhfmgfdaaSAlg
namespace Go.Proofs.Ytnalcmlhfmgfdaa.M

/-- the k-th byte, 0 beyond the end -/
def bt (L : List UInt8) (k : Nat) : Nat := (L[k]?.getD 0).toNat
/-- the first rune and its width -/
def d0 (L : List UInt8) : Nat × Nat := Lib.decodeN L.length (bt L 0) (bt L 1) (bt L 2) (bt L 3)

theorem bt_lt (L : List UInt8) (k : Nat) : bt L k < 256 := (L[k]?.getD 0).toNat_lt

theorem get!_eq (s : ByteArray) (i : Nat) : s.get! i = s.data.toList[i]?.getD 0 := by
  have h : s.get! i = s.data[i]! := rfl
  rw [h, getElem!_def, Array.getElem?_toList]
  cases s.data[i]? <;> rfl

theorem decode_d0 (s : ByteArray) (i : Nat) : Utf8.decode s i = d0 (s.data.toList.drop i) := by
  have hl : (s.data.toList.drop i).length = s.size - i := by rw [List.length_drop, Array.length_toList]; rfl
  rw [Lib.decode_at, d0, hl]
  simp only [bt, List.getElem?_drop, get!_eq, Nat.add_zero]

/-- runes and widths -/
def rl : Nat → List UInt8 → List (Nat × Nat)
  | 0, _ => []
  | n + 1, L => if L = [] then [] else d0 L :: rl n (L.drop (d0 L).2)

theorem rl_nil (n : Nat) : rl n [] = [] := by cases n <;> simp [rl]

theorem d0_width (L : List UInt8) (h : L ≠ []) : 1 ≤ (d0 L).2 ∧ (d0 L).2 ≤ 4 ∧ (d0 L).2 ≤ L.length := by
  have hl : 1 ≤ L.length := by cases L with
    | nil => exact absurd rfl h
    | cons => simp
  unfold d0 Lib.decodeN
  repeat' split
  all_goals simp only
  all_goals omega

theorem rl_fuel : ∀ (n m : Nat) (L : List UInt8), L.length ≤ n → L.length ≤ m → rl n L = rl m L
  | 0, m, L, hn, _ => by
    have : L = [] := List.eq_nil_of_length_eq_zero (by omega)
    subst this; rw [rl_nil, rl_nil]
  | n + 1, 0, L, _, hm => by
    have : L = [] := List.eq_nil_of_length_eq_zero (by omega)
    subst this; rw [rl_nil, rl_nil]
  | n + 1, m + 1, L, hn, hm => by
    by_cases h : L = []
    · simp [rl, h]
    · have hw := d0_width L h
      have hd : (L.drop (d0 L).2).length = L.length - (d0 L).2 := List.length_drop
      simp only [rl, h, if_false]
      rw [rl_fuel n m (L.drop (d0 L).2) (by omega) (by omega)]

def ru (L : List UInt8) : List (Nat × Nat) := rl L.length L

theorem ru_nil : ru [] = [] := rfl
theorem ru_cons (L : List UInt8) (h : L ≠ []) : ru L = d0 L :: ru (L.drop (d0 L).2) := by
  have hw := d0_width L h
  have hd : (L.drop (d0 L).2).length = L.length - (d0 L).2 := List.length_drop
  unfold ru
  obtain ⟨n, hn⟩ : ∃ n, L.length = n + 1 := ⟨L.length - 1, by omega⟩
  rw [hn]
  simp only [rl, h, if_false]
  rw [rl_fuel n (L.drop (d0 L).2).length _ (by omega) (by omega)]

/-- induction over a text, rune by rune -/
theorem ru_ind {P : List UInt8 → Prop} (h0 : P []) (h1 : ∀ L, L ≠ [] → P (L.drop (d0 L).2) → P L) : ∀ L, P L := by
  have : ∀ n (L : List UInt8), L.length ≤ n → P L := by
    intro n
    induction n with
    | zero => intro L hL; have : L = [] := List.eq_nil_of_length_eq_zero (by omega); subst this; exact h0
    | succ n ih =>
      intro L hL
      by_cases h : L = []
      · subst h; exact h0
      · have hw := d0_width L h
        exact h1 L h (ih _ (by rw [List.length_drop]; omega))
  exact fun L => this L.length L (Nat.le_refl _)

/-- the steps of the program's range are these -/
theorem steps_ru (s : ByteArray) : ∀ (b pos : Nat), s.size ≤ pos + b → (steps s b pos).map (fun x => x.2) = (ru (s.data.toList.drop pos)).map (fun x => x.1)
  | 0, pos, h => by
    have hl : (s.data.toList.drop pos).length = s.size - pos := by rw [List.length_drop, Array.length_toList]; rfl
    have : s.data.toList.drop pos = [] := List.eq_nil_of_length_eq_zero (by omega)
    rw [this]; rfl
  | b + 1, pos, h => by
    have hl : (s.data.toList.drop pos).length = s.size - pos := by rw [List.length_drop, Array.length_toList]; rfl
    by_cases hp : pos < s.size
    · have hw := width_pos s pos hp
      have hne : s.data.toList.drop pos ≠ [] := by intro e; rw [e] at hl; simp at hl; omega
      simp only [steps, hp, if_true, List.map_cons]
      rw [steps_ru s b _ (by omega), ru_cons _ hne, decode_d0, List.drop_drop, List.map_cons]
    · rw [steps_end s _ pos hp]
      have : s.data.toList.drop pos = [] := List.eq_nil_of_length_eq_zero (by omega)
      rw [this]; rfl

theorem rn_ru (s : ByteArray) : rn s = (ru s.data.toList).map (fun x => (x.1 : Int)) := by
  have h := steps_ru s s.size 0 (by omega)
  rw [List.drop_zero] at h
  have h2 := congrArg (List.map (fun n : Nat => (n : Int))) h
  rw [List.map_map, List.map_map] at h2
  exact h2

/-- a spoilt byte -/
def bad (x : Nat × Nat) : Bool := x.1 == 65533 && x.2 == 1
def sp (L : List UInt8) : Nat := ((ru L).filter bad).length

theorem sp_nil : sp [] = 0 := rfl
theorem sp_cons (L : List UInt8) (h : L ≠ []) : sp L = (if bad (d0 L) then 1 else 0) + sp (L.drop (d0 L).2) := by
  unfold sp
  rw [ru_cons L h, List.filter_cons]
  split <;> simp <;> omega

set_option maxHeartbeats 1000000 in
/-- what stands behind a whole rune does not matter -/
theorem d0_app (L M : List UInt8) (h : L ≠ []) (hb : bad (d0 L) = false) : d0 (L ++ M) = d0 L := by
  have hl : 1 ≤ L.length := by cases L with
    | nil => exact absurd rfl h
    | cons => simp
  have hb0 : bt (L ++ M) 0 = bt L 0 := by simp only [bt]; rw [List.getElem?_append_left (by omega)]
  have hb1 : 1 < L.length → bt (L ++ M) 1 = bt L 1 := fun h => by simp only [bt]; rw [List.getElem?_append_left h]
  have hb2 : 2 < L.length → bt (L ++ M) 2 = bt L 2 := fun h => by simp only [bt]; rw [List.getElem?_append_left h]
  have hb3 : 3 < L.length → bt (L ++ M) 3 = bt L 3 := fun h => by simp only [bt]; rw [List.getElem?_append_left h]
  have hlen : (L ++ M).length = L.length + M.length := List.length_append
  unfold d0 at hb ⊢
  rw [hb0, hlen]
  generalize bt L 0 = b0 at *
  unfold Lib.decodeN at hb ⊢
  by_cases c0 : b0 < 128
  · simp [c0]
  · by_cases c1 : b0 / 32 = 6 ∧ (1 < L.length ∧ bt L 1 / 64 = 2)
    · have e1 := hb1 c1.2.1
      have c1' : b0 / 32 = 6 ∧ (1 < L.length + M.length ∧ bt (L ++ M) 1 / 64 = 2) := ⟨c1.1, by omega, by rw [e1]; exact c1.2.2⟩
      simp only [c0, c1, c1', if_false, e1]
      simp
    · by_cases c2 : b0 / 16 = 14 ∧ (1 < L.length ∧ bt L 1 / 64 = 2) ∧ (2 < L.length ∧ bt L 2 / 64 = 2)
      · have e1 := hb1 c2.2.1.1
        have e2 := hb2 c2.2.2.1
        have n1 : ¬ (b0 / 32 = 6 ∧ (1 < L.length + M.length ∧ bt (L ++ M) 1 / 64 = 2)) := by omega
        have c2' : b0 / 16 = 14 ∧ (1 < L.length + M.length ∧ bt (L ++ M) 1 / 64 = 2) ∧ (2 < L.length + M.length ∧ bt (L ++ M) 2 / 64 = 2) := ⟨c2.1, ⟨by omega, by rw [e1]; exact c2.2.1.2⟩, by omega, by rw [e2]; exact c2.2.2.2⟩
        rw [if_neg c0, if_neg n1, if_pos c2', if_neg c0, if_neg c1, if_pos c2, e1, e2]
      · by_cases c3 : b0 / 8 = 30 ∧ (1 < L.length ∧ bt L 1 / 64 = 2) ∧ (2 < L.length ∧ bt L 2 / 64 = 2) ∧ (3 < L.length ∧ bt L 3 / 64 = 2)
        · have e1 := hb1 c3.2.1.1
          have e2 := hb2 c3.2.2.1.1
          have e3 := hb3 c3.2.2.2.1
          have n1 : ¬ (b0 / 32 = 6 ∧ (1 < L.length + M.length ∧ bt (L ++ M) 1 / 64 = 2)) := by omega
          have n2 : ¬ (b0 / 16 = 14 ∧ (1 < L.length + M.length ∧ bt (L ++ M) 1 / 64 = 2) ∧ (2 < L.length + M.length ∧ bt (L ++ M) 2 / 64 = 2)) := by omega
          have c3' : b0 / 8 = 30 ∧ (1 < L.length + M.length ∧ bt (L ++ M) 1 / 64 = 2) ∧ (2 < L.length + M.length ∧ bt (L ++ M) 2 / 64 = 2) ∧ (3 < L.length + M.length ∧ bt (L ++ M) 3 / 64 = 2) :=
            ⟨c3.1, ⟨by omega, by rw [e1]; exact c3.2.1.2⟩, ⟨by omega, by rw [e2]; exact c3.2.2.1.2⟩, by omega, by rw [e3]; exact c3.2.2.2.2⟩
          rw [if_neg c0, if_neg n1, if_neg n2, if_pos c3', if_neg c0, if_neg c1, if_neg c2, if_pos c3, e1, e2, e3]
        · exfalso
          rw [if_neg c0, if_neg c1, if_neg c2, if_neg c3] at hb
          simp [bad] at hb

/-- TWO TEXTS, of which the first one is whole -/
theorem ru_app (M : List UInt8) : ∀ L, sp L = 0 → ru (L ++ M) = ru L ++ ru M := by
  refine ru_ind (by simp [ru_nil]) ?_
  intro L h ih hs
  rw [sp_cons L h] at hs
  have hb : bad (d0 L) = false := by
    cases e : bad (d0 L) with
    | false => rfl
    | true => rw [e] at hs; simp at hs
  have hw := d0_width L h
  have hd := d0_app L M h hb
  have hne : L ++ M ≠ [] := by simp [h]
  rw [ru_cons _ hne, hd, ru_cons L h, List.drop_append_of_le_length hw.2.2, ih (by omega), List.cons_append]

theorem sp_app (L M : List UInt8) (h : sp L = 0) : sp (L ++ M) = sp M := by
  have h2 := ru_app M L h
  unfold sp at h ⊢
  rw [h2, List.filter_append, List.length_append, h, Nat.zero_add]

end Go.Proofs.Ytnalcmlhfmgfdaa.M

/-
  UTF-8 once more, over lists of bytes: what is encoded is decoded; what is not spoilt is encoded again to what it was; a spoilt byte is told from a written U+FFFD by its bytes; no program is named here.
-/
namespace Go.Proofs.Ytnalcmlhfmgfdaa.M

def enc (r : Int) : List UInt8 := (Utf8.encode r).data.toList

theorem right_valid (r : Int) : Utf8.valid r = right r := by
  unfold Utf8.valid right
  rw [Bool.eq_iff_iff]
  simp
  omega

set_option maxRecDepth 100000 in
/-- the bytes of a right rune, by its size -/
theorem enc_eq (r : Nat) (h : right (r : Int) = true) : enc (r : Int) =
    if r < 128 then [UInt8.ofNat r] else if r < 2048 then [UInt8.ofNat (192 + r / 64), UInt8.ofNat (128 + r % 64)]
    else if r < 65536 then [UInt8.ofNat (224 + r / 4096), UInt8.ofNat (128 + r / 64 % 64), UInt8.ofNat (128 + r % 64)]
    else [UInt8.ofNat (240 + r / 262144), UInt8.ofNat (128 + r / 4096 % 64), UInt8.ofNat (128 + r / 64 % 64), UInt8.ofNat (128 + r % 64)] := by
  unfold enc Utf8.encode
  simp only [right_valid, h, if_true, Int.toNat_natCast]
  by_cases h1 : r < 128
  · rw [if_pos h1, if_pos h1]
  · by_cases h2 : r < 2048
    · rw [if_neg h1, if_neg h1, if_pos h2, if_pos h2]
    · by_cases h3 : r < 65536
      · rw [if_neg h1, if_neg h1, if_neg h2, if_neg h2, if_pos h3, if_pos h3]
      · rw [if_neg h1, if_neg h1, if_neg h2, if_neg h2, if_neg h3, if_neg h3]

theorem u8 (n : Nat) (h : n < 256) : (UInt8.ofNat n).toNat = n := by simp; omega
theorem u8_eq (n : Nat) (a : UInt8) (h : n = a.toNat) : UInt8.ofNat n = a := by subst h; simp

theorem right_bd {r : Nat} (h : right (r : Int) = true) : r ≤ 1114111 ∧ (r < 55296 ∨ 57343 < r) := by
  unfold right at h
  simp at h
  omega

set_option maxHeartbeats 1000000 in
theorem d0_enc (r : Nat) (h : right (r : Int) = true) (M : List UInt8) : d0 (enc r ++ M) = (r, (enc r).length) := by
  have hr := right_bd h
  rw [enc_eq r h]
  by_cases h1 : r < 128
  · simp only [h1, if_true, List.cons_append, List.nil_append]
    simp only [d0, bt, List.getElem?_cons_zero, Option.getD_some, u8 r (by omega), Lib.decodeN, h1, if_true, List.length_cons, List.length_nil]
  · by_cases h2 : r < 2048
    · simp only [h1, h2, if_true, if_false, List.cons_append, List.nil_append]
      simp only [d0, bt, List.getElem?_cons_zero, List.getElem?_cons_succ, Option.getD_some, u8 (192 + r / 64) (by omega), u8 (128 + r % 64) (by omega), Lib.decodeN, List.length_cons, List.length_nil]
      rw [if_neg (by omega), if_pos (by omega), if_pos (by omega)]
      congr 1; omega
    · by_cases h3 : r < 65536
      · simp only [h1, h2, h3, if_true, if_false, List.cons_append, List.nil_append]
        simp only [d0, bt, List.getElem?_cons_zero, List.getElem?_cons_succ, Option.getD_some, u8 (224 + r / 4096) (by omega), u8 (128 + r / 64 % 64) (by omega), u8 (128 + r % 64) (by omega), Lib.decodeN, List.length_cons, List.length_nil]
        rw [if_neg (by omega), if_neg (by omega), if_pos (by omega), if_pos (by omega)]
        congr 1; omega
      · simp only [h1, h2, h3, if_false, List.cons_append, List.nil_append]
        simp only [d0, bt, List.getElem?_cons_zero, List.getElem?_cons_succ, Option.getD_some, u8 (240 + r / 262144) (by omega), u8 (128 + r / 4096 % 64) (by omega), u8 (128 + r / 64 % 64) (by omega), u8 (128 + r % 64) (by omega), Lib.decodeN, List.length_cons, List.length_nil]
        rw [if_neg (by omega), if_neg (by omega), if_neg (by omega), if_pos (by omega), if_pos (by omega)]
        congr 1; omega

theorem enc_len (r : Nat) (h : right (r : Int) = true) : 1 ≤ (enc r).length ∧ (128 ≤ r → 2 ≤ (enc r).length) := by
  rw [enc_eq r h]
  repeat' split
  all_goals simp
  all_goals omega

/-- WHAT IS ENCODED IS DECODED -/
theorem ru_enc : ∀ l : List Nat, (∀ r ∈ l, right (r : Int) = true) → (ru (l.flatMap fun r : Nat => enc (r : Int))).map (fun x => x.1) = l ∧ sp (l.flatMap fun r : Nat => enc (r : Int)) = 0
  | [], _ => ⟨rfl, rfl⟩
  | r :: l, h => by
    have hr := h r (by simp)
    obtain ⟨i1, i2⟩ := ru_enc l (fun x hx => h x (by simp [hx]))
    have hl := enc_len r hr
    have hd := d0_enc r hr (l.flatMap fun r : Nat => enc (r : Int))
    have hne : enc (r : Int) ++ (l.flatMap fun r : Nat => enc (r : Int)) ≠ [] := by
      intro e
      have := congrArg List.length e
      rw [List.length_append, List.length_nil] at this
      omega
    rw [List.flatMap_cons]
    constructor
    · rw [ru_cons _ hne, hd]
      simp [i1]
    · rw [sp_cons _ hne, hd]
      have hb : bad (r, (enc (r : Int)).length) = false := by
        unfold bad
        simp
        intro e
        have := hl.2 (by omega)
        omega
      rw [hb]
      simp [i2]

set_option maxHeartbeats 1000000 in
theorem d0_right (L : List UInt8) : right ((d0 L).1 : Int) = true := by
  have h0 := bt_lt L 0; have h1 := bt_lt L 1; have h2 := bt_lt L 2; have h3 := bt_lt L 3
  have e : ∀ n : Nat, (n ≤ 1114111 ∧ (n < 55296 ∨ 57343 < n)) → right (n : Int) = true := fun n hn => by unfold right; simp; omega
  unfold d0 Lib.decodeN
  repeat' split
  all_goals apply e
  all_goals simp only
  all_goals omega

theorem bt_cons0 (a : UInt8) (L : List UInt8) : bt (a :: L) 0 = a.toNat := rfl
theorem bt_cons (a : UInt8) (L : List UInt8) (k : Nat) : bt (a :: L) (k + 1) = bt L k := by simp [bt]

set_option maxRecDepth 100000 in
set_option maxHeartbeats 4000000 in
/-- what is not spoilt is encoded again to its bytes -/
theorem enc_d0 (L : List UInt8) (h : L ≠ []) (hb : bad (d0 L) = false) : enc ((d0 L).1 : Int) = L.take (d0 L).2 := by
  have hr := d0_right L
  rw [enc_eq _ hr]
  cases L with
  | nil => exact absurd rfl h
  | cons a L =>
    have g0 := a.toNat_lt
    have e0 : bt (a :: L) 0 = a.toNat := rfl
    unfold d0 at hb hr ⊢
    rw [e0] at hb hr ⊢
    unfold Lib.decodeN at hb hr ⊢
    by_cases c0 : a.toNat < 128
    · simp only [c0, if_true] at *
      simp
    · rw [if_neg c0] at hb hr ⊢
      by_cases c1 : a.toNat / 32 = 6 ∧ (1 < (a :: L).length ∧ bt (a :: L) 1 / 64 = 2)
      · rw [if_pos c1] at hb hr ⊢
        split at hb
        case isFalse => simp [bad] at hb
        case isTrue c =>
          rw [if_pos c] at hr ⊢
          cases L with
          | nil => simp at c1
          | cons b L =>
            have e1 : bt (a :: b :: L) 1 = b.toNat := rfl
            have g1 := b.toNat_lt
            rw [e1] at c1 c hr ⊢
            simp only at hr ⊢
            rw [if_neg (by omega), if_pos (by omega)]
            simp only [List.take_succ_cons, List.take_zero]
            rw [u8_eq _ a (by omega), u8_eq _ b (by omega)]
      · rw [if_neg c1] at hb hr ⊢
        by_cases c2 : a.toNat / 16 = 14 ∧ (1 < (a :: L).length ∧ bt (a :: L) 1 / 64 = 2) ∧ (2 < (a :: L).length ∧ bt (a :: L) 2 / 64 = 2)
        · rw [if_pos c2] at hb hr ⊢
          split at hb
          case isFalse => simp [bad] at hb
          case isTrue c =>
            rw [if_pos c] at hr ⊢
            rcases L with _ | ⟨b, _ | ⟨d, L⟩⟩
            · simp at c2
            · simp at c2
            · have e1 : bt (a :: b :: d :: L) 1 = b.toNat := rfl
              have e2 : bt (a :: b :: d :: L) 2 = d.toNat := rfl
              have g1 := b.toNat_lt
              have g2 := d.toNat_lt
              rw [e1, e2] at c2 c hr ⊢
              simp only at hr ⊢
              rw [if_neg (by omega), if_neg (by omega), if_pos (by omega)]
              simp only [List.take_succ_cons, List.take_zero]
              rw [u8_eq _ a (by omega), u8_eq _ b (by omega), u8_eq _ d (by omega)]
        · rw [if_neg c2] at hb hr ⊢
          by_cases c3 : a.toNat / 8 = 30 ∧ (1 < (a :: L).length ∧ bt (a :: L) 1 / 64 = 2) ∧ (2 < (a :: L).length ∧ bt (a :: L) 2 / 64 = 2) ∧ (3 < (a :: L).length ∧ bt (a :: L) 3 / 64 = 2)
          · rw [if_pos c3] at hb hr ⊢
            split at hb
            case isFalse => simp [bad] at hb
            case isTrue c =>
              rw [if_pos c] at hr ⊢
              rcases L with _ | ⟨b, _ | ⟨d, _ | ⟨f, L⟩⟩⟩
              · simp at c3
              · simp at c3
              · simp at c3
              · have e1 : bt (a :: b :: d :: f :: L) 1 = b.toNat := rfl
                have e2 : bt (a :: b :: d :: f :: L) 2 = d.toNat := rfl
                have e3 : bt (a :: b :: d :: f :: L) 3 = f.toNat := rfl
                have g1 := b.toNat_lt
                have g2 := d.toNat_lt
                have g3 := f.toNat_lt
                rw [e1, e2, e3] at c3 c hr ⊢
                simp only at hr ⊢
                rw [if_neg (by omega), if_neg (by omega), if_neg (by omega)]
                simp only [List.take_succ_cons, List.take_zero]
                rw [u8_eq _ a (by omega), u8_eq _ b (by omega), u8_eq _ d (by omega), u8_eq _ f (by omega)]
          · rw [if_neg c3] at hb
            simp [bad] at hb

/-- WHAT IS NOT SPOILT COMES BACK -/
theorem enc_ru : ∀ L, sp L = 0 → ((ru L).flatMap fun x => enc (x.1 : Int)) = L := by
  refine ru_ind (by simp [ru_nil]) ?_
  intro L h ih hs
  rw [sp_cons L h] at hs
  have hb : bad (d0 L) = false := by
    cases e : bad (d0 L) with
    | false => rfl
    | true => rw [e] at hs; simp at hs
  rw [ru_cons L h, List.flatMap_cons, ih (by omega), enc_d0 L h hb, List.take_append_drop]

/-- a written U+FFFD is told by its bytes -/
theorem bad_pre (L : List UInt8) (h : L ≠ []) (h1 : (d0 L).1 = 65533) : bad (d0 L) = !(decide (3 ≤ L.length) && (L.take 3 == [239, 191, 189])) := by
  cases e : bad (d0 L) with
  | false =>
    have he := enc_d0 L h e
    rw [h1] at he
    have hE : enc ((65533 : Nat) : Int) = [239, 191, 189] := by decide
    rw [hE] at he
    have hw := d0_width L h
    have hl : 3 = min (d0 L).2 L.length := by have := congrArg List.length he; simpa using this
    have h2 : (d0 L).2 = 3 := by
      have : ¬ (d0 L).2 = 4 := by
        intro e4
        rw [e4] at he hw
        have := congrArg List.length he
        simp at this
        omega
      omega
    rw [h2] at he hw
    rw [← he]
    simp [hw.2.2]
  | true =>
    cases hp : decide (3 ≤ L.length) && (L.take 3 == [239, 191, 189]) with
    | false => rfl
    | true =>
      exfalso
      simp only [Bool.and_eq_true, decide_eq_true_eq, beq_iff_eq] at hp
      have hL : L = enc ((65533 : Nat) : Int) ++ L.drop 3 := by
        have hE : enc ((65533 : Nat) : Int) = [239, 191, 189] := by decide
        rw [hE, ← hp.2, List.take_append_drop]
      rw [hL, d0_enc 65533 (by decide)] at e
      exact absurd e (by decide)

end Go.Proofs.Ytnalcmlhfmgfdaa.M

/-
  Sets in texts: what Read tells of any runes, and what Print writes: plain functions.
-/
namespace Go.Proofs.Ytnalcmlhfmgfdaa.T
open S (Sp)

/-- how a step of reading ends: with a value, and where it goes on; or with a fault -/
inductive Out (α : Type) where
  | ok (a : α) (p : Nat)
  | bad (e : Int) (p : Nat)

def see (l : List Int) (p : Nat) : Int := (l[p]?).getD (-1)
def blanks : List Int := [32, 9, 10]
def specials : List Int := [32, 9, 10, 91, 93, 38, 45, 94, 92, 58, 36, 40, 41, 123, 125, 60, 62, 124, 59, 35, 39, 34, 61, 44]
def hexes : List Int := [48, 49, 50, 51, 52, 53, 54, 55, 56, 57, 97, 98, 99, 100, 101, 102, 65, 66, 67, 68, 69, 70]
def blank (r : Int) : Bool := decide (r ∈ blanks)
def hexd (r : Int) : Bool := decide (r ∈ hexes)
def ordy (r : Int) : Bool := !decide (r = -1) && !decide (r ∈ specials)
def alnum (r : Int) : Bool := (decide (48 ≤ r) && decide (r ≤ 57)) || (decide (65 ≤ r) && decide (r ≤ 90)) || (decide (97 ≤ r) && decide (r ≤ 122))

def skipW (f : Int → Bool) (l : List Int) (p : Nat) : Nat := p + ((l.drop p).takeWhile f).length

theorem see_lt {l : List Int} {p : Nat} (h : p < l.length) : l[p]? = some (see l p) := by
  unfold see; rw [List.getElem?_eq_getElem h]; rfl
theorem see_ge {l : List Int} {p : Nat} (h : l.length ≤ p) : see l p = -1 := by
  unfold see; rw [List.getElem?_eq_none h]; rfl
theorem see_some {l : List Int} {p : Nat} {r : Int} (h : l[p]? = some r) : see l p = r := by unfold see; rw [h]; rfl

theorem skipW_eq {f : Int → Bool} {l : List Int} : ∀ {p k : Nat}, p ≤ k → k ≤ l.length → (∀ i, p ≤ i → i < k → f (see l i) = true) → f (see l k) = false → f (-1) = false → skipW f l p = k := by
  intro p k hp hk h1 h2 _
  obtain ⟨n, rfl⟩ : ∃ n, k = p + n := ⟨k - p, by omega⟩
  clear hp
  induction n generalizing p with
  | zero =>
    unfold skipW
    by_cases hlt : p < l.length
    · have : l.drop p = see l p :: l.drop (p + 1) := by
        rw [List.drop_eq_getElem_cons hlt]; congr 1; have := see_lt hlt; rw [List.getElem?_eq_getElem hlt] at this; exact Option.some.inj this
      rw [this, List.takeWhile_cons, if_neg (by rw [show see l p = see l (p + 0) from rfl, h2]; simp)]; rfl
    · rw [List.drop_eq_nil_of_le (by omega)]; rfl
  | succ n ih =>
    have hlt : p < l.length := by omega
    have hd : l.drop p = see l p :: l.drop (p + 1) := by
      rw [List.drop_eq_getElem_cons hlt]; congr 1; have := see_lt hlt; rw [List.getElem?_eq_getElem hlt] at this; exact Option.some.inj this
    have hi := ih (p := p + 1) (by omega) (fun i h3 h4 => h1 i (by omega) (by omega)) (by rw [show p + 1 + n = p + (n + 1) by omega]; exact h2)
    unfold skipW at hi ⊢
    rw [hd, List.takeWhile_cons, if_pos (h1 p (Nat.le_refl _) (by omega)), List.length_cons]
    omega

theorem skipW_ge (f : Int → Bool) (l : List Int) (p : Nat) : p ≤ skipW f l p := by unfold skipW; omega
theorem skipW_le {f : Int → Bool} {l : List Int} {p : Nat} (h : p ≤ l.length) : skipW f l p ≤ l.length := by
  unfold skipW
  have := (List.takeWhile_sublist f (l := l.drop p)).length_le
  rw [List.length_drop] at this
  omega
theorem skipW_here {f : Int → Bool} {l : List Int} {p : Nat} (h : p ≤ l.length) (h0 : f (-1) = false) (h2 : f (see l p) = false) : skipW f l p = p :=
  skipW_eq (Nat.le_refl _) h (fun i h1 h2 => by omega) h2 h0

/-- digits of base sixteen -/
def hexOne (r : Int) : Int := if r ≤ 57 then r - 48 else if r ≤ 70 then r - 55 else r - 87
def hexN (l : List Int) : Int := l.foldl (fun x r => 16 * x + hexOne r) 0

def cut (l : List Int) (p q : Nat) : List Int := (l.drop p).take (q - p)

/-- `u{..}`, at `u` -/
def num (l : List Int) (p : Nat) : Out Int :=
  if see l (p + 1) ≠ 123 then .bad 2 (p + 1)
  else if skipW hexd l (p + 2) - (p + 2) < 1 ∨ 6 < skipW hexd l (p + 2) - (p + 2) then .bad 2 (p + 2)
  else if see l (skipW hexd l (p + 2)) ≠ 125 then .bad 2 (skipW hexd l (p + 2))
  else if 1114111 < hexN (cut l (p + 2) (skipW hexd l (p + 2))) then .bad 3 p
  else .ok (hexN (cut l (p + 2) (skipW hexd l (p + 2)))) (skipW hexd l (p + 2) + 1)

/-- what follows a backslash -/
def esc (l : List Int) (p : Nat) : Out Int :=
  if see l p = 117 then num l p
  else if see l p = 110 then .ok 10 (p + 1)
  else if see l p = 116 then .ok 9 (p + 1)
  else if see l p = -1 ∨ alnum (see l p) = true then .bad 2 p
  else .ok (see l p) (p + 1)

def chr (l : List Int) (p : Nat) : Out Int :=
  if see l p = 92 then esc l (p + 1)
  else if ordy (see l p) = true then .ok (see l p) (p + 1)
  else .bad 2 p

def span (l : List Int) (p : Nat) : Out Sp :=
  match chr l p with
  | .bad e q => .bad e q
  | .ok lo q =>
    if see l q ≠ 45 ∨ see l (q + 1) = 91 then .ok (lo, lo) q
    else match chr l (q + 1) with
      | .bad e r => .bad e r
      | .ok hi r => if hi < lo then .bad 3 (q + 1) else .ok (lo, hi) r

def classOf (n : List Int) : Option (List Sp) :=
  if n = [100, 105, 103, 105, 116] then some [(48, 57)]
  else if n = [108, 111, 119, 101, 114] then some [(97, 122), (223, 246), (248, 255)]
  else if n = [117, 112, 112, 101, 114] then some [(65, 90), (192, 214), (216, 222)]
  else if n = [108, 101, 116, 116, 101, 114] then some [(65, 90), (97, 122), (192, 214), (216, 246), (248, 255)]
  else if n = [118, 111, 119, 101, 108] then some [(65, 65), (69, 69), (73, 73), (79, 79), (85, 85), (97, 97), (101, 101), (105, 105), (111, 111), (117, 117)]
  else if n = [103, 114, 101, 101, 107] then some [(880, 1023)]
  else if n = [99, 121, 114, 105, 108, 108, 105, 99] then some [(1024, 1279)]
  else if n = [115, 112, 97, 99, 101] then some [(9, 10), (32, 32)]
  else if n = [97, 110, 121] then some [(0, 1114111)]
  else none

/-- a class, at its `[` -/
def cls (l : List Int) (p : Nat) : Out (List Sp) :=
  match classOf (cut l (p + 2) (skipW ordy l (p + 2))) with
  | none => .bad 7 (p + 2)
  | some s =>
    if see l (skipW ordy l (p + 2)) ≠ 58 then .bad 2 (skipW ordy l (p + 2))
    else if see l (skipW ordy l (p + 2) + 1) ≠ 93 then .bad 2 (skipW ordy l (p + 2) + 1)
    else .ok s (skipW ordy l (p + 2) + 2)

noncomputable def made (P : Int → Bool) (p : Nat) : Out (List Sp) := if 200 < (S.nf P).length then .bad 5 p else .ok (S.nf P) p

noncomputable def part (sub : Nat → Out (List Sp)) (l : List Int) (s : List Sp) (p : Nat) : Out (List Sp) :=
  if see l p = 38 then
    match sub (skipW blank l (p + 1)) with
    | .bad e q => .bad e q
    | .ok t q => made (S.andP s t) q
  else if see l p = 45 then
    match sub (skipW blank l (p + 1)) with
    | .bad e q => .bad e q
    | .ok t q => made (S.minP s t) q
  else if see l p = 91 ∧ see l (p + 1) = 58 then
    match cls l p with
    | .bad e q => .bad e q
    | .ok t q => made (S.orP s t) q
  else if see l p = 91 then
    match sub p with
    | .bad e q => .bad e q
    | .ok t q => made (S.orP s t) q
  else
    match span l p with
    | .bad e q => .bad e q
    | .ok x q => made (S.orP s [x]) q

noncomputable def loop : Nat → (Nat → Out (List Sp)) → List Int → List Sp → Nat → Out (List Sp)
  | 0, _, _, _, p => .bad 0 p
  | f + 1, sub, l, s, p =>
    if see l p = 93 then .ok s (p + 1)
    else match part sub l s p with
      | .bad e q => .bad e q
      | .ok t q => loop f sub l t (skipW blank l q)

/-- a set, n sets deep at most, that one among them -/
noncomputable def setN : Nat → List Int → Nat → Out (List Sp)
  | 0, l, p => if see l p ≠ 91 then .bad 2 p else .bad 4 p
  | n + 1, l, p =>
    if see l p ≠ 91 then .bad 2 p
    else if see l (p + 1) = 94 then
      match loop (l.length + 1) (setN n l) l [] (skipW blank l (p + 2)) with
      | .bad e q => .bad e q
      | .ok s q => made (S.notP s) q
    else loop (l.length + 1) (setN n l) l [] (skipW blank l (p + 1))

noncomputable def whole (l : List Int) : Out (List Sp) :=
  match setN 20 l (skipW blank l 0) with
  | .bad e q => .bad e q
  | .ok s q => if see l (skipW blank l q) = -1 then .ok s q else .bad 2 (skipW blank l q)

noncomputable def read (l : List Int) : Out (List Sp) := if 4000 < l.length then .bad 4 0 else whole l

/-- digits -/
def dig (d : Nat) : UInt8 := if d < 10 then UInt8.ofNat (48 + d) else UInt8.ofNat (87 + d)
def hexL (n : Nat) : List UInt8 := if n < 16 then [dig n] else hexL (n / 16) ++ [dig (n % 16)]
termination_by n
decreasing_by omega

def plain (r : Int) : Bool := alnum r || (M.right r && decide (126 < r))
def quo (r : Int) : List UInt8 := if plain r = true then M.enc r else [92, 117, 123] ++ hexL r.toNat ++ [125]
def one (x : Sp) : List UInt8 := quo x.1 ++ if x.1 < x.2 then [45] ++ quo x.2 else []
def inner (s : List Sp) : List UInt8 := s.flatMap one
def prt (s : List Sp) : List UInt8 := [91] ++ inner s ++ [93]

theorem inner_snoc (s : List Sp) (x : Sp) : inner (s ++ [x]) = inner s ++ one x := by simp [inner]

theorem hexL_small {n : Nat} (h : n < 16) : hexL n = [dig n] := by rw [hexL, if_pos h]
theorem hexL_big {n : Nat} (h : ¬ n < 16) : hexL n = hexL (n / 16) ++ [dig (n % 16)] := by rw [hexL, if_neg h]
theorem hexL_len {n : Nat} : ∀ {k : Nat}, n < 16 ^ (k + 1) → (hexL n).length ≤ k + 1 := by
  intro k
  induction k generalizing n with
  | zero => intro h; rw [hexL_small (by simpa using h)]; simp
  | succ k ih =>
    intro h
    by_cases hs : n < 16
    · rw [hexL_small hs]; simp
    · rw [hexL_big hs, List.length_append]
      have := ih (n := n / 16) (by rw [Nat.div_lt_iff_lt_mul (by omega)]; rw [Nat.pow_succ] at h; exact h)
      simp; omega

end Go.Proofs.Ytnalcmlhfmgfdaa.T
