/-
  The plain mathematics of a text's runes: places and runes of a text from a place on, by the model's own decoding of UTF-8; no program is named here.
-/
import Derived.Laws.RangeAny
import Derived.Lib.DecodeN
import Derived.Test.YtbclmmkphjknaaaNmSrt
namespace Go.Proofs.Ytbclmmkphjknaaa.M

theorem width_pos (s : ByteArray) (pos : Nat) (h : pos < s.size) : 1 ≤ (Utf8.decode s pos).2 := by
  by_cases ha : (s[pos]'h).toNat < 128
  · rw [decode_ascii s pos h ha]
    exact Nat.le_refl _
  · exact (decode_high s pos h (by omega)).2

/-- a rune's bytes lie within the text -/
theorem width_fits (s : ByteArray) (pos : Nat) (h : pos < s.size) : (Utf8.decode s pos).2 ≤ 4 ∧ pos + (Utf8.decode s pos).2 ≤ s.size := by
  rw [Lib.decode_at]
  unfold Lib.decodeN
  repeat' split
  all_goals simp only
  all_goals omega

/-- places and runes -/
def steps (s : ByteArray) : Nat → Nat → List (Nat × Nat)
  | 0, _ => []
  | b + 1, pos => if pos < s.size then (pos, (Utf8.decode s pos).1) :: steps s b (pos + (Utf8.decode s pos).2) else []

theorem steps_end (s : ByteArray) (b pos : Nat) (h : ¬ pos < s.size) : steps s b pos = [] := by
  cases b with
  | zero => rfl
  | succ b => simp [steps, h]

theorem steps_fuel (s : ByteArray) : ∀ (b c pos : Nat), s.size ≤ pos + b → s.size ≤ pos + c → steps s b pos = steps s c pos
  | 0, c, pos, hb, _ => by rw [steps_end s c pos (by omega), steps_end s 0 pos (by omega)]
  | b + 1, 0, pos, _, hc => by rw [steps_end s (b + 1) pos (by omega), steps_end s 0 pos (by omega)]
  | b + 1, c + 1, pos, hb, hc => by
    by_cases h : pos < s.size
    · have hw := width_pos s pos h
      simp only [steps, h, if_true]
      rw [steps_fuel s b c (pos + (Utf8.decode s pos).2) (by omega) (by omega)]
    · rw [steps_end s _ pos h, steps_end s _ pos h]

def all (s : ByteArray) : List (Nat × Nat) := steps s s.size 0
def rn (s : ByteArray) : List Int := (all s).map fun x => (x.2 : Int)
def pl (s : ByteArray) : List Int := (all s).map (fun x => (x.1 : Int)) ++ [(s.size : Int)]

theorem steps_length (s : ByteArray) : ∀ (b pos : Nat), (steps s b pos).length ≤ b
  | 0, _ => by simp [steps]
  | b + 1, pos => by
    unfold steps
    split
    · have := steps_length s b (pos + (Utf8.decode s pos).2)
      simp only [List.length_cons]; omega
    · simp
theorem rn_length (s : ByteArray) : (rn s).length ≤ s.size := by simpa [rn, all] using steps_length s s.size 0
theorem pl_length (s : ByteArray) : (pl s).length = (rn s).length + 1 := by simp [pl, rn]


/-- places from a place on, the end behind them -/
def plFrom (s : ByteArray) (b pos : Nat) : List Int := (steps s b pos).map (fun x => (x.1 : Int)) ++ [(s.size : Int)]
theorem pl_eq (s : ByteArray) : pl s = plFrom s s.size 0 := rfl

theorem plFrom_head (s : ByteArray) (b pos : Nat) (h : pos ≤ s.size) (hb : s.size ≤ pos + b) : (plFrom s b pos)[0]? = some (pos : Int) := by
  unfold plFrom
  by_cases hp : pos < s.size
  · cases b with
    | zero => omega
    | succ b => simp [steps, hp]
  · rw [steps_end s b pos hp]
    have : pos = s.size := by omega
    simp [this]

/-- places rise, by four at most -/
theorem plFrom_step (s : ByteArray) : ∀ (b pos : Nat), pos ≤ s.size → s.size ≤ pos + b → ∀ (i : Nat) (x y : Int), (plFrom s b pos)[i]? = some x → (plFrom s b pos)[i + 1]? = some y → x < y ∧ y ≤ x + 4
  | 0, pos, h, hb, i, x, y, hx, hy => by
    rw [plFrom, steps_end s 0 pos (by omega)] at hy
    simp at hy
  | b + 1, pos, h, hb, i, x, y, hx, hy => by
    by_cases hp : pos < s.size
    · have hw := width_pos s pos hp
      have hf := width_fits s pos hp
      have e : plFrom s (b + 1) pos = (pos : Int) :: plFrom s b (pos + (Utf8.decode s pos).2) := by simp [plFrom, steps, hp]
      rw [e] at hx hy
      cases i with
      | zero =>
        have h2 := plFrom_head s b (pos + (Utf8.decode s pos).2) hf.2 (by omega)
        simp only [Nat.zero_add, List.getElem?_cons_succ] at hy
        rw [h2] at hy
        simp at hx hy
        omega
      | succ i =>
        simp only [List.getElem?_cons_succ] at hx hy
        exact plFrom_step s b _ hf.2 (by omega) i x y hx hy
    · rw [plFrom, steps_end s _ pos hp] at hy
      simp at hy

theorem pl_first (s : ByteArray) : (pl s)[0]? = some 0 := plFrom_head s s.size 0 (by omega) (by omega)
theorem pl_last (s : ByteArray) : (pl s)[(rn s).length]? = some (s.size : Int) := by simp [pl, rn]
theorem pl_step (s : ByteArray) (i : Nat) (x y : Int) (hx : (pl s)[i]? = some x) (hy : (pl s)[i + 1]? = some y) : x < y ∧ y ≤ x + 4 :=
  plFrom_step s s.size 0 (by omega) (by omega) i x y hx hy
theorem steps_bd (s : ByteArray) : ∀ (b pos : Nat) (x : Nat × Nat), x ∈ steps s b pos → x.1 < s.size ∧ x.2 ≤ 1114111
  | 0, _, x, h => by simp [steps] at h
  | b + 1, pos, x, h => by
    unfold steps at h
    split at h
    · rename_i hp
      rcases List.mem_cons.1 h with rfl | h
      · refine ⟨hp, ?_⟩
        show (Utf8.decode s pos).1 ≤ 1114111
        rw [Lib.decode_at]
        have hb : ∀ k, (s.get! (pos + k)).toNat < 256 := fun k => (s.get! (pos + k)).toNat_lt
        unfold Lib.decodeN
        repeat' split
        all_goals simp only
        all_goals omega
      · exact steps_bd s b _ x h
    · simp at h
theorem pl_bd (s : ByteArray) (i : Nat) (x : Int) (hx : (pl s)[i]? = some x) : 0 ≤ x ∧ x ≤ s.size := by
  have hm := List.mem_of_getElem? hx
  unfold pl at hm
  rcases List.mem_append.1 hm with h | h
  · obtain ⟨y, hy, rfl⟩ := List.mem_map.1 h
    have := (steps_bd s _ _ y hy).1
    omega
  · simp at h; omega


/-- a rune that is right -/
def right (r : Int) : Bool := decide (0 ≤ r ∧ r ≤ 1114111 ∧ (r < 55296 ∨ 57343 < r))
/-- does a text begin with another one? -/
def pre (s p : ByteArray) : Bool := decide (p.size ≤ s.size) && ((s.extract 0 p.size).data.toList == p.data.toList)

end Go.Proofs.Ytbclmmkphjknaaa.M

/-
  Letters and their marks: the table, what is looked up in it, a letter taken apart. Plain lists.
-/
namespace Go.Proofs.Ytbclmmkphjknaaa.Nm
set_option linter.unusedSimpArgs false
set_option linter.unusedVariables false
set_option maxRecDepth 20000

/-- a letter, a mark, and both as one -/
abbrev Pr := Int × Int × Int
def tab : List Pr := [(65, 768, 192), (69, 768, 200), (73, 768, 204), (79, 768, 210), (85, 768, 217), (97, 768, 224), (101, 768, 232), (105, 768, 236), (111, 768, 242), (117, 768, 249), (65, 769, 193), (69, 769, 201), (73, 769, 205), (79, 769, 211), (85, 769, 218), (89, 769, 221), (97, 769, 225), (101, 769, 233), (105, 769, 237), (111, 769, 243), (117, 769, 250), (121, 769, 253), (65, 770, 194), (69, 770, 202), (73, 770, 206), (79, 770, 212), (85, 770, 219), (97, 770, 226), (101, 770, 234), (105, 770, 238), (111, 770, 244), (117, 770, 251), (65, 771, 195), (78, 771, 209), (79, 771, 213), (97, 771, 227), (110, 771, 241), (111, 771, 245), (65, 776, 196), (69, 776, 203), (73, 776, 207), (79, 776, 214), (85, 776, 220), (97, 776, 228), (101, 776, 235), (105, 776, 239), (111, 776, 246), (117, 776, 252), (121, 776, 255), (65, 778, 197), (97, 778, 229), (67, 780, 268), (83, 780, 352), (90, 780, 381), (99, 780, 269), (115, 780, 353), (122, 780, 382), (67, 807, 199), (83, 807, 350), (99, 807, 231), (115, 807, 351), (65, 808, 260), (69, 808, 280), (97, 808, 261), (101, 808, 281), (65, 803, 7840), (69, 803, 7864), (79, 803, 7884), (97, 803, 7841), (101, 803, 7865), (111, 803, 7885), (7841, 770, 7853), (7865, 770, 7879), (7885, 770, 7897)]
def rowL : List (Int × List Int × List Int) := [(768, [65, 69, 73, 79, 85, 97, 101, 105, 111, 117], [192, 200, 204, 210, 217, 224, 232, 236, 242, 249]), (769, [65, 69, 73, 79, 85, 89, 97, 101, 105, 111, 117, 121], [193, 201, 205, 211, 218, 221, 225, 233, 237, 243, 250, 253]), (770, [65, 69, 73, 79, 85, 97, 101, 105, 111, 117], [194, 202, 206, 212, 219, 226, 234, 238, 244, 251]), (771, [65, 78, 79, 97, 110, 111], [195, 209, 213, 227, 241, 245]), (776, [65, 69, 73, 79, 85, 97, 101, 105, 111, 117, 121], [196, 203, 207, 214, 220, 228, 235, 239, 246, 252, 255]), (778, [65, 97], [197, 229]), (780, [67, 83, 90, 99, 115, 122], [268, 352, 381, 269, 353, 382]), (807, [67, 83, 99, 115], [199, 350, 231, 351]), (808, [65, 69, 97, 101], [260, 280, 261, 281]), (803, [65, 69, 79, 97, 101, 111], [7840, 7864, 7884, 7841, 7865, 7885]), (770, [7841, 7865, 7885], [7853, 7879, 7897])]
def rowB : List (Int × ByteArray × ByteArray) := [(768, ⟨#[65, 69, 73, 79, 85, 97, 101, 105, 111, 117]⟩, ⟨#[195, 128, 195, 136, 195, 140, 195, 146, 195, 153, 195, 160, 195, 168, 195, 172, 195, 178, 195, 185]⟩), (769, ⟨#[65, 69, 73, 79, 85, 89, 97, 101, 105, 111, 117, 121]⟩, ⟨#[195, 129, 195, 137, 195, 141, 195, 147, 195, 154, 195, 157, 195, 161, 195, 169, 195, 173, 195, 179, 195, 186, 195, 189]⟩), (770, ⟨#[65, 69, 73, 79, 85, 97, 101, 105, 111, 117]⟩, ⟨#[195, 130, 195, 138, 195, 142, 195, 148, 195, 155, 195, 162, 195, 170, 195, 174, 195, 180, 195, 187]⟩), (771, ⟨#[65, 78, 79, 97, 110, 111]⟩, ⟨#[195, 131, 195, 145, 195, 149, 195, 163, 195, 177, 195, 181]⟩), (776, ⟨#[65, 69, 73, 79, 85, 97, 101, 105, 111, 117, 121]⟩, ⟨#[195, 132, 195, 139, 195, 143, 195, 150, 195, 156, 195, 164, 195, 171, 195, 175, 195, 182, 195, 188, 195, 191]⟩), (778, ⟨#[65, 97]⟩, ⟨#[195, 133, 195, 165]⟩), (780, ⟨#[67, 83, 90, 99, 115, 122]⟩, ⟨#[196, 140, 197, 160, 197, 189, 196, 141, 197, 161, 197, 190]⟩), (807, ⟨#[67, 83, 99, 115]⟩, ⟨#[195, 135, 197, 158, 195, 167, 197, 159]⟩), (808, ⟨#[65, 69, 97, 101]⟩, ⟨#[196, 132, 196, 152, 196, 133, 196, 153]⟩), (803, ⟨#[65, 69, 79, 97, 101, 111]⟩, ⟨#[225, 186, 160, 225, 186, 184, 225, 187, 140, 225, 186, 161, 225, 186, 185, 225, 187, 141]⟩), (770, ⟨#[225, 186, 161, 225, 186, 185, 225, 187, 141]⟩, ⟨#[225, 186, 173, 225, 187, 135, 225, 187, 153]⟩)]
def mk (x : Int × List Int × List Int) : List Pr := (x.2.1.zip x.2.2).map fun y => (y.1, x.1, y.2)
theorem tab_rows : rowL.flatMap mk = tab := by decide +kernel
def look (l : List Pr) (r : Int) : Option Pr := l.find? fun p => p.2.2 == r
def join (l : List Pr) (a b : Int) : Option Pr := l.find? fun p => p.1 == a && p.2.1 == b
theorem find_rev {α : Type} {l : List α} {P : α → Bool} (h : ∀ x ∈ l, ∀ y ∈ l, P x = true → P y = true → x = y) : l.reverse.find? P = l.find? P := by
  cases h1 : l.find? P with
  | none =>
    rw [List.find?_eq_none] at h1 ⊢
    exact fun x hx => h1 x (List.mem_reverse.1 hx)
  | some x =>
    cases h2 : l.reverse.find? P with
    | none =>
      rw [List.find?_eq_none] at h2
      exact absurd (List.find?_some h1) (h2 x (List.mem_reverse.2 (List.mem_of_find?_eq_some h1)))
    | some y => exact congrArg some (h y (List.mem_reverse.1 (List.mem_of_find?_eq_some h2)) x (List.mem_of_find?_eq_some h1) (List.find?_some h2) (List.find?_some h1))
theorem tab_whole : ∀ x ∈ tab, ∀ y ∈ tab, x.2.2 = y.2.2 → x = y := by decide +kernel
theorem tab_pair : ∀ x ∈ tab, ∀ y ∈ tab, x.1 = y.1 → x.2.1 = y.2.1 → x = y := by decide +kernel
theorem look_rev (r : Int) : look tab.reverse r = look tab r := find_rev fun x hx y hy h1 h2 => tab_whole x hx y hy (by simp at h1 h2; omega)
theorem join_rev (a b : Int) : join tab.reverse a b = join tab a b := find_rev fun x hx y hy h1 h2 => by
  simp at h1 h2
  exact tab_pair x hx y hy (by omega) (by omega)
/-- a letter, taken apart -/
def full : Nat → Int → List Int
  | 0, r => [r]
  | n + 1, r => match look tab r with
    | none => [r]
    | some p => full n p.1 ++ [p.2.1]
theorem tab_two : ∀ x ∈ tab, ∀ y ∈ tab, y.2.2 = x.1 → ∀ z ∈ tab, ¬ z.2.2 = y.1 := by decide +kernel
theorem look_mem {r : Int} {p : Pr} (h : look tab r = some p) : p ∈ tab ∧ p.2.2 = r := ⟨List.mem_of_find?_eq_some h, by have := List.find?_some h; simpa using this⟩
theorem look_none {r : Int} (h : ∀ z ∈ tab, ¬ z.2.2 = r) : look tab r = none := List.find?_eq_none.2 fun z hz => by simp; exact h z hz
/-- how often a letter is taken apart -/
def deep : Nat → Int → Prop
  | 0, r => look tab r = none
  | n + 1, r => ∀ p, look tab r = some p → deep n p.1
theorem deep_two (r : Int) : deep 2 r := fun p hp q hq => look_none fun z hz => tab_two p (look_mem hp).1 q (look_mem hq).1 (look_mem hq).2 z hz
def fl (r : Int) : List Int := full 2 r
theorem fl_len (r : Int) : 1 ≤ (fl r).length ∧ (fl r).length ≤ 3 := by
  unfold fl
  rw [full]
  cases h1 : look tab r with
  | none => simp
  | some p =>
    simp only [full]
    cases h2 : look tab p.1 with
    | none => simp
    | some q => simp
theorem tab_bd : ∀ x ∈ tab, 0 ≤ x.1 ∧ x.1 ≤ 1114111 ∧ 0 ≤ x.2.1 ∧ x.2.1 ≤ 1114111 ∧ 0 ≤ x.2.2 ∧ x.2.2 ≤ 1114111 := by decide +kernel
end Go.Proofs.Ytbclmmkphjknaaa.Nm
