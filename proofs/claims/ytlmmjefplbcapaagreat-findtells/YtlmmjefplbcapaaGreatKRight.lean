/-
  Boxes in memory.
-/
import Derived.Test.YtlmmjefplbcapaaGreatKI32
import Derived.Laws.RangeAny
import Derived.Lib.DecodeN
namespace Go.Proofs.YtlmmjefplbcapaaGreat.K
open Go.RowKit

theorem at_box {w : World} {b i : Nat} {c : Array Value} {t : TypeId} {v : Value} (h : w.heap[b]? = some (.cells c t)) (hv : c[i]? = some v) : w.cell? ⟨b, i, none⟩ = some v := by
  rw [World.cell?]; simp [h, hv]
theorem blk_below {w w' : World} {b : Nat} {o : Obj} (h : w.heap[b]? = some o) (hb : Below w.heap.size w w') : w'.heap[b]? = some o := by
  rw [hb.block b (Array.getElem?_eq_some_iff.1 h).1]; exact h
theorem one_box {w w1 : World} {o1 : Obj} (h : Below (w.alloc o1).heap.size (w.alloc o1) w1) : w1.heap[w.heap.size]? = some o1 ∧ Below w.heap.size w w1 ∧ w.heap.size + 1 ≤ w1.heap.size := by
  have hs := h.size
  simp at hs
  refine ⟨blk_below (heap_alloc_new w o1) h, ((Below.refl _ w).alloc (Nat.le_refl _) o1).trans (h.mono (by simp)), hs⟩
theorem two_boxes {w w1 : World} {o1 o2 : Obj} (h : Below ((w.alloc o1).alloc o2).heap.size ((w.alloc o1).alloc o2) w1) :
    w1.heap[w.heap.size]? = some o1 ∧ w1.heap[w.heap.size + 1]? = some o2 ∧ Below w.heap.size w w1 ∧ w.heap.size + 2 ≤ w1.heap.size := by
  have hs := h.size
  simp at hs
  have e1 := heap_alloc_new (w.alloc o1) o2
  simp at e1
  have e2 : ((w.alloc o1).alloc o2).heap[w.heap.size]? = some o1 := (Below.heap_alloc (w.alloc o1) o2 w.heap.size (by simp)).trans (heap_alloc_new w o1)
  exact ⟨blk_below e2 h, blk_below (by simpa using e1) h, (((Below.refl _ w).alloc (Nat.le_refl _) o1).alloc (by simp) o2).trans (h.mono (by simp; omega)), by omega⟩

theorem box2 {w : World} {g : Nat} {a b : Value} {t : TypeId} (hg : w.heap[g]? = some (.cells #[a, b] t)) : w.cell? ⟨g, 0, none⟩ = some a ∧ w.cell? ⟨g, 1, none⟩ = some b ∧ w.frozen? ⟨g, 0, none⟩ = false ∧ w.frozen? ⟨g, 1, none⟩ = false := by
  refine ⟨?_, ?_, ?_, ?_⟩
  · rw [World.cell?]; simp [hg]
  · rw [World.cell?]; simp [hg]
  · rw [World.frozen?]; simp [hg]
  · rw [World.frozen?]; simp [hg]

end Go.Proofs.YtlmmjefplbcapaaGreat.K

/-
  The plain mathematics of a text's runes: places and runes of a text from a place on, by the model's own decoding of UTF-8; no program is named here.
-/
namespace Go.Proofs.YtlmmjefplbcapaaGreat.M

theorem width_pos (s : ByteArray) (pos : Nat) (h : pos < s.size) : 1 ≤ (Utf8.decode s pos).2 := by
  by_cases ha : (s[pos]'h).toNat < 128
  · rw [decode_ascii s pos h ha]
    exact Nat.le_refl _
  · exact (decode_high s pos h (by omega)).2

/-- a rune's bytes lie within the text -/
theorem width_fits (s : ByteArray) (pos : Nat) (h : pos < s.size) : (Utf8.decode s pos).2 ≤ 4 ∧ pos + (Utf8.decode s pos).2 ≤ s.size := by
  rw [Lib.decode_at]
  unfold Lib.decodeN
  repeat' split
  all_goals simp only
  all_goals omega

/-- places and runes -/
def steps (s : ByteArray) : Nat → Nat → List (Nat × Nat)
  | 0, _ => []
  | b + 1, pos => if pos < s.size then (pos, (Utf8.decode s pos).1) :: steps s b (pos + (Utf8.decode s pos).2) else []

theorem steps_end (s : ByteArray) (b pos : Nat) (h : ¬ pos < s.size) : steps s b pos = [] := by
  cases b with
  | zero => rfl
  | succ b => simp [steps, h]

theorem steps_fuel (s : ByteArray) : ∀ (b c pos : Nat), s.size ≤ pos + b → s.size ≤ pos + c → steps s b pos = steps s c pos
  | 0, c, pos, hb, _ => by rw [steps_end s c pos (by omega), steps_end s 0 pos (by omega)]
  | b + 1, 0, pos, _, hc => by rw [steps_end s (b + 1) pos (by omega), steps_end s 0 pos (by omega)]
  | b + 1, c + 1, pos, hb, hc => by
    by_cases h : pos < s.size
    · have hw := width_pos s pos h
      simp only [steps, h, if_true]
      rw [steps_fuel s b c (pos + (Utf8.decode s pos).2) (by omega) (by omega)]
    · rw [steps_end s _ pos h, steps_end s _ pos h]

def all (s : ByteArray) : List (Nat × Nat) := steps s s.size 0
def rn (s : ByteArray) : List Int := (all s).map fun x => (x.2 : Int)
def pl (s : ByteArray) : List Int := (all s).map (fun x => (x.1 : Int)) ++ [(s.size : Int)]

theorem steps_length (s : ByteArray) : ∀ (b pos : Nat), (steps s b pos).length ≤ b
  | 0, _ => by simp [steps]
  | b + 1, pos => by
    unfold steps
    split
    · have := steps_length s b (pos + (Utf8.decode s pos).2)
      simp only [List.length_cons]; omega
    · simp
theorem rn_length (s : ByteArray) : (rn s).length ≤ s.size := by simpa [rn, all] using steps_length s s.size 0
theorem pl_length (s : ByteArray) : (pl s).length = (rn s).length + 1 := by simp [pl, rn]


/-- places from a place on, the end behind them -/
def plFrom (s : ByteArray) (b pos : Nat) : List Int := (steps s b pos).map (fun x => (x.1 : Int)) ++ [(s.size : Int)]
theorem pl_eq (s : ByteArray) : pl s = plFrom s s.size 0 := rfl

theorem plFrom_head (s : ByteArray) (b pos : Nat) (h : pos ≤ s.size) (hb : s.size ≤ pos + b) : (plFrom s b pos)[0]? = some (pos : Int) := by
  unfold plFrom
  by_cases hp : pos < s.size
  · cases b with
    | zero => omega
    | succ b => simp [steps, hp]
  · rw [steps_end s b pos hp]
    have : pos = s.size := by omega
    simp [this]

/-- places rise, by four at most -/
theorem plFrom_step (s : ByteArray) : ∀ (b pos : Nat), pos ≤ s.size → s.size ≤ pos + b → ∀ (i : Nat) (x y : Int), (plFrom s b pos)[i]? = some x → (plFrom s b pos)[i + 1]? = some y → x < y ∧ y ≤ x + 4
  | 0, pos, h, hb, i, x, y, hx, hy => by
    rw [plFrom, steps_end s 0 pos (by omega)] at hy
    simp at hy
  | b + 1, pos, h, hb, i, x, y, hx, hy => by
    by_cases hp : pos < s.size
    · have hw := width_pos s pos hp
      have hf := width_fits s pos hp
      have e : plFrom s (b + 1) pos = (pos : Int) :: plFrom s b (pos + (Utf8.decode s pos).2) := by simp [plFrom, steps, hp]
      rw [e] at hx hy
      cases i with
      | zero =>
        have h2 := plFrom_head s b (pos + (Utf8.decode s pos).2) hf.2 (by omega)
        simp only [Nat.zero_add, List.getElem?_cons_succ] at hy
        rw [h2] at hy
        simp at hx hy
        omega
      | succ i =>
        simp only [List.getElem?_cons_succ] at hx hy
        exact plFrom_step s b _ hf.2 (by omega) i x y hx hy
    · rw [plFrom, steps_end s _ pos hp] at hy
      simp at hy

theorem pl_first (s : ByteArray) : (pl s)[0]? = some 0 := plFrom_head s s.size 0 (by omega) (by omega)
theorem pl_last (s : ByteArray) : (pl s)[(rn s).length]? = some (s.size : Int) := by simp [pl, rn]
theorem pl_step (s : ByteArray) (i : Nat) (x y : Int) (hx : (pl s)[i]? = some x) (hy : (pl s)[i + 1]? = some y) : x < y ∧ y ≤ x + 4 :=
  plFrom_step s s.size 0 (by omega) (by omega) i x y hx hy
theorem steps_bd (s : ByteArray) : ∀ (b pos : Nat) (x : Nat × Nat), x ∈ steps s b pos → x.1 < s.size ∧ x.2 ≤ 1114111
  | 0, _, x, h => by simp [steps] at h
  | b + 1, pos, x, h => by
    unfold steps at h
    split at h
    · rename_i hp
      rcases List.mem_cons.1 h with rfl | h
      · refine ⟨hp, ?_⟩
        show (Utf8.decode s pos).1 ≤ 1114111
        rw [Lib.decode_at]
        have hb : ∀ k, (s.get! (pos + k)).toNat < 256 := fun k => (s.get! (pos + k)).toNat_lt
        unfold Lib.decodeN
        repeat' split
        all_goals simp only
        all_goals omega
      · exact steps_bd s b _ x h
    · simp at h
theorem pl_bd (s : ByteArray) (i : Nat) (x : Int) (hx : (pl s)[i]? = some x) : 0 ≤ x ∧ x ≤ s.size := by
  have hm := List.mem_of_getElem? hx
  unfold pl at hm
  rcases List.mem_append.1 hm with h | h
  · obtain ⟨y, hy, rfl⟩ := List.mem_map.1 h
    have := (steps_bd s _ _ y hy).1
    omega
  · simp at h; omega


/-- a rune that is right -/
def right (r : Int) : Bool := decide (0 ≤ r ∧ r ≤ 1114111 ∧ (r < 55296 ∨ 57343 < r))
/-- does a text begin with another one? -/
def pre (s p : ByteArray) : Bool := decide (p.size ≤ s.size) && ((s.extract 0 p.size).data.toList == p.data.toList)

end Go.Proofs.YtlmmjefplbcapaaGreat.M

/-
  Whether all runes are right; what is wrong with a text.
-/
namespace Go.Proofs.YtlmmjefplbcapaaGreat.K

def allR (l : List Int) : Bool := l.all M.right
def textE (l : List Int) : Int := if 4000 < l.length then 4 else if allR l = true then 0 else 3

end Go.Proofs.YtlmmjefplbcapaaGreat.K
