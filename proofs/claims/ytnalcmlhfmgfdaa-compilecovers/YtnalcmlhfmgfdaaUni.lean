/-
  The plain mathematics of UTF-8 over lists of bytes: a text's first rune, joining texts, what is encoded is decoded, what is decoded and not spoilt is encoded; no program is named here.
-/
import Derived.Test.YtnalcmlhfmgfdaaMath
import Derived.Laws.Cover4
namespace Go.Proofs.Ytnalcmlhfmgfdaa.M

/-- the k-th byte, 0 beyond the end -/
def bt (L : List UInt8) (k : Nat) : Nat := (L[k]?.getD 0).toNat
/-- the first rune and its width -/
def d0 (L : List UInt8) : Nat × Nat := Lib.decodeN L.length (bt L 0) (bt L 1) (bt L 2) (bt L 3)

theorem bt_lt (L : List UInt8) (k : Nat) : bt L k < 256 := (L[k]?.getD 0).toNat_lt

theorem get!_eq (s : ByteArray) (i : Nat) : s.get! i = s.data.toList[i]?.getD 0 := by
  have h : s.get! i = s.data[i]! := rfl
  rw [h, getElem!_def, Array.getElem?_toList]
  cases s.data[i]? <;> rfl

theorem decode_d0 (s : ByteArray) (i : Nat) : Utf8.decode s i = d0 (s.data.toList.drop i) := by
  have hl : (s.data.toList.drop i).length = s.size - i := by rw [List.length_drop, Array.length_toList]; rfl
  rw [Lib.decode_at, d0, hl]
  simp only [bt, List.getElem?_drop, get!_eq, Nat.add_zero]

/-- runes and widths -/
def rl : Nat → List UInt8 → List (Nat × Nat)
  | 0, _ => []
  | n + 1, L => if L = [] then [] else d0 L :: rl n (L.drop (d0 L).2)

theorem rl_nil (n : Nat) : rl n [] = [] := by cases n <;> simp [rl]

theorem d0_width (L : List UInt8) (h : L ≠ []) : 1 ≤ (d0 L).2 ∧ (d0 L).2 ≤ 4 ∧ (d0 L).2 ≤ L.length := by
  have hl : 1 ≤ L.length := by cases L with
    | nil => exact absurd rfl h
    | cons => simp
  unfold d0 Lib.decodeN
  repeat' split
  all_goals simp only
  all_goals omega

theorem rl_fuel : ∀ (n m : Nat) (L : List UInt8), L.length ≤ n → L.length ≤ m → rl n L = rl m L
  | 0, m, L, hn, _ => by
    have : L = [] := List.eq_nil_of_length_eq_zero (by omega)
    subst this; rw [rl_nil, rl_nil]
  | n + 1, 0, L, _, hm => by
    have : L = [] := List.eq_nil_of_length_eq_zero (by omega)
    subst this; rw [rl_nil, rl_nil]
  | n + 1, m + 1, L, hn, hm => by
    by_cases h : L = []
    · simp [rl, h]
    · have hw := d0_width L h
      have hd : (L.drop (d0 L).2).length = L.length - (d0 L).2 := List.length_drop
      simp only [rl, h, if_false]
      rw [rl_fuel n m (L.drop (d0 L).2) (by omega) (by omega)]

def ru (L : List UInt8) : List (Nat × Nat) := rl L.length L

theorem ru_nil : ru [] = [] := rfl
theorem ru_cons (L : List UInt8) (h : L ≠ []) : ru L = d0 L :: ru (L.drop (d0 L).2) := by
  have hw := d0_width L h
  have hd : (L.drop (d0 L).2).length = L.length - (d0 L).2 := List.length_drop
  unfold ru
  obtain ⟨n, hn⟩ : ∃ n, L.length = n + 1 := ⟨L.length - 1, by omega⟩
  rw [hn]
  simp only [rl, h, if_false]
  rw [rl_fuel n (L.drop (d0 L).2).length _ (by omega) (by omega)]

/-- induction over a text, rune by rune -/
theorem ru_ind {P : List UInt8 → Prop} (h0 : P []) (h1 : ∀ L, L ≠ [] → P (L.drop (d0 L).2) → P L) : ∀ L, P L := by
  have : ∀ n (L : List UInt8), L.length ≤ n → P L := by
    intro n
    induction n with
    | zero => intro L hL; have : L = [] := List.eq_nil_of_length_eq_zero (by omega); subst this; exact h0
    | succ n ih =>
      intro L hL
      by_cases h : L = []
      · subst h; exact h0
      · have hw := d0_width L h
        exact h1 L h (ih _ (by rw [List.length_drop]; omega))
  exact fun L => this L.length L (Nat.le_refl _)

/-- the steps of the program's range are these -/
theorem steps_ru (s : ByteArray) : ∀ (b pos : Nat), s.size ≤ pos + b → (steps s b pos).map (fun x => x.2) = (ru (s.data.toList.drop pos)).map (fun x => x.1)
  | 0, pos, h => by
    have hl : (s.data.toList.drop pos).length = s.size - pos := by rw [List.length_drop, Array.length_toList]; rfl
    have : s.data.toList.drop pos = [] := List.eq_nil_of_length_eq_zero (by omega)
    rw [this]; rfl
  | b + 1, pos, h => by
    have hl : (s.data.toList.drop pos).length = s.size - pos := by rw [List.length_drop, Array.length_toList]; rfl
    by_cases hp : pos < s.size
    · have hw := width_pos s pos hp
      have hne : s.data.toList.drop pos ≠ [] := by intro e; rw [e] at hl; simp at hl; omega
      simp only [steps, hp, if_true, List.map_cons]
      rw [steps_ru s b _ (by omega), ru_cons _ hne, decode_d0, List.drop_drop, List.map_cons]
    · rw [steps_end s _ pos hp]
      have : s.data.toList.drop pos = [] := List.eq_nil_of_length_eq_zero (by omega)
      rw [this]; rfl

theorem rn_ru (s : ByteArray) : rn s = (ru s.data.toList).map (fun x => (x.1 : Int)) := by
  have h := steps_ru s s.size 0 (by omega)
  rw [List.drop_zero] at h
  have h2 := congrArg (List.map (fun n : Nat => (n : Int))) h
  rw [List.map_map, List.map_map] at h2
  exact h2

/-- a spoilt byte -/
def bad (x : Nat × Nat) : Bool := x.1 == 65533 && x.2 == 1
def sp (L : List UInt8) : Nat := ((ru L).filter bad).length

theorem sp_nil : sp [] = 0 := rfl
theorem sp_cons (L : List UInt8) (h : L ≠ []) : sp L = (if bad (d0 L) then 1 else 0) + sp (L.drop (d0 L).2) := by
  unfold sp
  rw [ru_cons L h, List.filter_cons]
  split <;> simp <;> omega

set_option maxHeartbeats 1000000 in
/-- what stands behind a whole rune does not matter -/
theorem d0_app (L M : List UInt8) (h : L ≠ []) (hb : bad (d0 L) = false) : d0 (L ++ M) = d0 L := by
  have hl : 1 ≤ L.length := by cases L with
    | nil => exact absurd rfl h
    | cons => simp
  have hb0 : bt (L ++ M) 0 = bt L 0 := by simp only [bt]; rw [List.getElem?_append_left (by omega)]
  have hb1 : 1 < L.length → bt (L ++ M) 1 = bt L 1 := fun h => by simp only [bt]; rw [List.getElem?_append_left h]
  have hb2 : 2 < L.length → bt (L ++ M) 2 = bt L 2 := fun h => by simp only [bt]; rw [List.getElem?_append_left h]
  have hb3 : 3 < L.length → bt (L ++ M) 3 = bt L 3 := fun h => by simp only [bt]; rw [List.getElem?_append_left h]
  have hlen : (L ++ M).length = L.length + M.length := List.length_append
  unfold d0 at hb ⊢
  rw [hb0, hlen]
  generalize bt L 0 = b0 at *
  unfold Lib.decodeN at hb ⊢
  by_cases c0 : b0 < 128
  · simp [c0]
  · by_cases c1 : b0 / 32 = 6 ∧ (1 < L.length ∧ bt L 1 / 64 = 2)
    · have e1 := hb1 c1.2.1
      have c1' : b0 / 32 = 6 ∧ (1 < L.length + M.length ∧ bt (L ++ M) 1 / 64 = 2) := ⟨c1.1, by omega, by rw [e1]; exact c1.2.2⟩
      simp only [c0, c1, c1', if_false, e1]
      simp
    · by_cases c2 : b0 / 16 = 14 ∧ (1 < L.length ∧ bt L 1 / 64 = 2) ∧ (2 < L.length ∧ bt L 2 / 64 = 2)
      · have e1 := hb1 c2.2.1.1
        have e2 := hb2 c2.2.2.1
        have n1 : ¬ (b0 / 32 = 6 ∧ (1 < L.length + M.length ∧ bt (L ++ M) 1 / 64 = 2)) := by omega
        have c2' : b0 / 16 = 14 ∧ (1 < L.length + M.length ∧ bt (L ++ M) 1 / 64 = 2) ∧ (2 < L.length + M.length ∧ bt (L ++ M) 2 / 64 = 2) := ⟨c2.1, ⟨by omega, by rw [e1]; exact c2.2.1.2⟩, by omega, by rw [e2]; exact c2.2.2.2⟩
        rw [if_neg c0, if_neg n1, if_pos c2', if_neg c0, if_neg c1, if_pos c2, e1, e2]
      · by_cases c3 : b0 / 8 = 30 ∧ (1 < L.length ∧ bt L 1 / 64 = 2) ∧ (2 < L.length ∧ bt L 2 / 64 = 2) ∧ (3 < L.length ∧ bt L 3 / 64 = 2)
        · have e1 := hb1 c3.2.1.1
          have e2 := hb2 c3.2.2.1.1
          have e3 := hb3 c3.2.2.2.1
          have n1 : ¬ (b0 / 32 = 6 ∧ (1 < L.length + M.length ∧ bt (L ++ M) 1 / 64 = 2)) := by omega
          have n2 : ¬ (b0 / 16 = 14 ∧ (1 < L.length + M.length ∧ bt (L ++ M) 1 / 64 = 2) ∧ (2 < L.length + M.length ∧ bt (L ++ M) 2 / 64 = 2)) := by omega
          have c3' : b0 / 8 = 30 ∧ (1 < L.length + M.length ∧ bt (L ++ M) 1 / 64 = 2) ∧ (2 < L.length + M.length ∧ bt (L ++ M) 2 / 64 = 2) ∧ (3 < L.length + M.length ∧ bt (L ++ M) 3 / 64 = 2) :=
            ⟨c3.1, ⟨by omega, by rw [e1]; exact c3.2.1.2⟩, ⟨by omega, by rw [e2]; exact c3.2.2.1.2⟩, by omega, by rw [e3]; exact c3.2.2.2.2⟩
          rw [if_neg c0, if_neg n1, if_neg n2, if_pos c3', if_neg c0, if_neg c1, if_neg c2, if_pos c3, e1, e2, e3]
        · exfalso
          rw [if_neg c0, if_neg c1, if_neg c2, if_neg c3] at hb
          simp [bad] at hb

/-- TWO TEXTS, of which the first one is whole -/
theorem ru_app (M : List UInt8) : ∀ L, sp L = 0 → ru (L ++ M) = ru L ++ ru M := by
  refine ru_ind (by simp [ru_nil]) ?_
  intro L h ih hs
  rw [sp_cons L h] at hs
  have hb : bad (d0 L) = false := by
    cases e : bad (d0 L) with
    | false => rfl
    | true => rw [e] at hs; simp at hs
  have hw := d0_width L h
  have hd := d0_app L M h hb
  have hne : L ++ M ≠ [] := by simp [h]
  rw [ru_cons _ hne, hd, ru_cons L h, List.drop_append_of_le_length hw.2.2, ih (by omega), List.cons_append]

theorem sp_app (L M : List UInt8) (h : sp L = 0) : sp (L ++ M) = sp M := by
  have h2 := ru_app M L h
  unfold sp at h ⊢
  rw [h2, List.filter_append, List.length_append, h, Nat.zero_add]

end Go.Proofs.Ytnalcmlhfmgfdaa.M
