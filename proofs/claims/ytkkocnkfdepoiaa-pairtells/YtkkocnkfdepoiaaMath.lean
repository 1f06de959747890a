/-
  A slice of spans that came in, as a list of pairs of numbers.
-/
import Derived.Test.YtkkocnkfdepoiaaFrame
import Derived.Test.YtkkocnkfdepoiaaSLib
import Derived.Deep.SlicePairs
import Derived.Laws.RangeAny
import Derived.Lib.DecodeN
namespace Go.Proofs.Ytkkocnkfdepoiaa
open Go.ChangeShapes Go.WideShapes Go.ChangeAt Go.RowKit

theorem wf_i32 {n : Int} (h : (Lit.int .i32 n).wf = true) : -2147483648 ≤ n ∧ n ≤ 2147483647 := by
  simp only [Lit.wf, Bool.and_eq_true, decide_eq_true_eq] at h
  have e1 : IntKind.i32.min = -2147483648 := by decide
  have e2 : IntKind.i32.max = 2147483647 := by decide
  rw [e1, e2] at h
  omega

set_option maxRecDepth 100000 in
theorem spans_rd {H : Type} {enc : TypeId × Value → H} {W : World} {base : Nat} {v : Value} {d : DataW H} {p : List MemPlace}
    (hv : Value.okWide Try.prog W .any base 23 v) (h : DataW.Trod enc Try.prog W 0 (fun _ => true) true 23 v d p) :
    ∃ l : List S.Sp, S.Rd W v l ∧ S.Fit l ∧ l.length + 1 ≤ Rows.uptoBulk d ∧ ∀ ao n c, v = .slice ao n c → n ≤ c := by
  obtain ⟨a0, len0, cap0, rfl⟩ := okWide_slice Try.underlying23 hv
  obtain ⟨fuel, hf⟩ := h
  obtain ⟨f0, f1, hu, o0, o1, t0, t1⟩ : ∃ f0 f1 : Field, Try.prog.underlying 57 = some (.struct #[f0, f1]) ∧ f0.offset = 0 ∧ f1.offset = 1 ∧ f0.type = 21 ∧ f1.type = 21 := ⟨_, _, Try.underlying57, rfl, rfl, rfl, rfl⟩
  rcases Go.Deep.open_slice_pairs Try.underlying23 hu (by kernel_rfl) o0 o1 (by rw [t0]; kernel_rfl) (by rw [t1]; kernel_rfl) hf with ⟨hcs, hx⟩ | ⟨a, len, cap, m, n, V0, V1, D0, D1, P0, P1, hcs, _, hl, hm, hmm, hx, hcell⟩
  · simp [Value.cells] at hcs
    obtain ⟨rfl, rfl, rfl⟩ := hcs
    exact ⟨[], S.Rd.nil W, fun x hx => by simp at hx, bulk_one _, fun ao n c h => by cases h; exact Nat.le_refl _⟩
  · simp [Value.cells] at hcs
    obtain ⟨rfl, rfl, rfl⟩ := hcs
    simp only [Prod.mk.injEq] at hx
    obtain ⟨rfl, rfl⟩ := hx
    simp only [if_true] at hmm
    subst hmm
    have each : ∀ i, i < len0 → ∃ x1 x2 : Int, V0 i = .int .i32 x1 ∧ V1 i = .int .i32 x2 ∧ -2147483648 ≤ x1 ∧ x1 ≤ 2147483647 ∧ -2147483648 ≤ x2 ∧ x2 ≤ 2147483647 := fun i hi => by
      obtain ⟨_, _, h3, h4⟩ := hcell i (by omega)
      rw [t0] at h3
      rw [t1] at h4
      obtain ⟨x1, e1, _, w1⟩ := DataW.trod_int Try.underlying21 h3
      obtain ⟨x2, e2, _, w2⟩ := DataW.trod_int Try.underlying21 h4
      have := wf_i32 w1
      have := wf_i32 w2
      exact ⟨x1, x2, by simpa using e1, by simpa using e2, by omega, by omega, by omega, by omega⟩
    let g : Nat → S.Sp := fun i => (intOf (V0 i), intOf (V1 i))
    have hg : ∀ i, i < len0 → V0 i = .int .i32 (g i).1 ∧ V1 i = .int .i32 (g i).2 ∧ -2147483648 ≤ (g i).1 ∧ (g i).1 ≤ 2147483647 ∧ -2147483648 ≤ (g i).2 ∧ (g i).2 ≤ 2147483647 := fun i hi => by
      obtain ⟨x1, x2, e1, e2, h⟩ := each i hi
      simp only [g, e1, e2, intOf]
      exact ⟨trivial, trivial, h⟩
    have hlen : ((List.range len0).map g).length = len0 := by simp
    refine ⟨(List.range len0).map g, ⟨_, m, by rw [hlen], fun h => by simp at h, fun hne => ?_⟩, fun x hx => ?_, ?_, fun ao n c h => by cases h; exact hl⟩
    · have h0 : 0 < len0 := by
        cases len0 with
        | zero => simp at hne
        | succ => omega
      obtain ⟨b, off, spot⟩ := a
      have c0 := (hcell 0 (by omega)).1
      have hsp : spot = none := by simpa [Addr.add] using World.cell?_spot c0
      subst hsp
      refine ⟨b, off, rfl, fun j x hj => ?_⟩
      have hj2 : j < len0 := by
        have := (List.getElem?_eq_some_iff.1 hj).1
        rw [hlen] at this
        exact this
      have hxj : g j = x := by
        rw [List.getElem?_map, List.getElem?_range hj2] at hj
        simpa using hj
      obtain ⟨h3, h4, _⟩ := hcell j (by omega)
      rw [L.addr_add] at h3 h4
      rw [← Nat.add_assoc] at h4
      rw [h3, h4, (hg j hj2).1, (hg j hj2).2.1, hxj]
      exact ⟨rfl, rfl⟩
    · obtain ⟨i, hi, rfl⟩ := List.mem_map.1 hx
      exact (hg i (by simpa using hi)).2.2
    · have h5 := bulk_slice (H := H) ((List.range len0).map fun i => .agg [D0 i, D1 i]) ((List.range (m - len0)).map fun j => .agg [D0 (len0 + j), D1 (len0 + j)])
      simpa using h5

end Go.Proofs.Ytkkocnkfdepoiaa

/-
  The plain mathematics of a text's runes: places and runes of a text from a place on, by the model's own decoding of UTF-8; no program is named here.
-/
namespace Go.Proofs.Ytkkocnkfdepoiaa.M

theorem width_pos (s : ByteArray) (pos : Nat) (h : pos < s.size) : 1 ≤ (Utf8.decode s pos).2 := by
  by_cases ha : (s[pos]'h).toNat < 128
  · rw [decode_ascii s pos h ha]
    exact Nat.le_refl _
  · exact (decode_high s pos h (by omega)).2

/-- a rune's bytes lie within the text -/
theorem width_fits (s : ByteArray) (pos : Nat) (h : pos < s.size) : (Utf8.decode s pos).2 ≤ 4 ∧ pos + (Utf8.decode s pos).2 ≤ s.size := by
  rw [Lib.decode_at]
  unfold Lib.decodeN
  repeat' split
  all_goals simp only
  all_goals omega

/-- places and runes -/
def steps (s : ByteArray) : Nat → Nat → List (Nat × Nat)
  | 0, _ => []
  | b + 1, pos => if pos < s.size then (pos, (Utf8.decode s pos).1) :: steps s b (pos + (Utf8.decode s pos).2) else []

theorem steps_end (s : ByteArray) (b pos : Nat) (h : ¬ pos < s.size) : steps s b pos = [] := by
  cases b with
  | zero => rfl
  | succ b => simp [steps, h]

theorem steps_fuel (s : ByteArray) : ∀ (b c pos : Nat), s.size ≤ pos + b → s.size ≤ pos + c → steps s b pos = steps s c pos
  | 0, c, pos, hb, _ => by rw [steps_end s c pos (by omega), steps_end s 0 pos (by omega)]
  | b + 1, 0, pos, _, hc => by rw [steps_end s (b + 1) pos (by omega), steps_end s 0 pos (by omega)]
  | b + 1, c + 1, pos, hb, hc => by
    by_cases h : pos < s.size
    · have hw := width_pos s pos h
      simp only [steps, h, if_true]
      rw [steps_fuel s b c (pos + (Utf8.decode s pos).2) (by omega) (by omega)]
    · rw [steps_end s _ pos h, steps_end s _ pos h]

def all (s : ByteArray) : List (Nat × Nat) := steps s s.size 0
def rn (s : ByteArray) : List Int := (all s).map fun x => (x.2 : Int)
def pl (s : ByteArray) : List Int := (all s).map (fun x => (x.1 : Int)) ++ [(s.size : Int)]

theorem steps_length (s : ByteArray) : ∀ (b pos : Nat), (steps s b pos).length ≤ b
  | 0, _ => by simp [steps]
  | b + 1, pos => by
    unfold steps
    split
    · have := steps_length s b (pos + (Utf8.decode s pos).2)
      simp only [List.length_cons]; omega
    · simp
theorem rn_length (s : ByteArray) : (rn s).length ≤ s.size := by simpa [rn, all] using steps_length s s.size 0
theorem pl_length (s : ByteArray) : (pl s).length = (rn s).length + 1 := by simp [pl, rn]


/-- places from a place on, the end behind them -/
def plFrom (s : ByteArray) (b pos : Nat) : List Int := (steps s b pos).map (fun x => (x.1 : Int)) ++ [(s.size : Int)]
theorem pl_eq (s : ByteArray) : pl s = plFrom s s.size 0 := rfl

theorem plFrom_head (s : ByteArray) (b pos : Nat) (h : pos ≤ s.size) (hb : s.size ≤ pos + b) : (plFrom s b pos)[0]? = some (pos : Int) := by
  unfold plFrom
  by_cases hp : pos < s.size
  · cases b with
    | zero => omega
    | succ b => simp [steps, hp]
  · rw [steps_end s b pos hp]
    have : pos = s.size := by omega
    simp [this]

/-- places rise, by four at most -/
theorem plFrom_step (s : ByteArray) : ∀ (b pos : Nat), pos ≤ s.size → s.size ≤ pos + b → ∀ (i : Nat) (x y : Int), (plFrom s b pos)[i]? = some x → (plFrom s b pos)[i + 1]? = some y → x < y ∧ y ≤ x + 4
  | 0, pos, h, hb, i, x, y, hx, hy => by
    rw [plFrom, steps_end s 0 pos (by omega)] at hy
    simp at hy
  | b + 1, pos, h, hb, i, x, y, hx, hy => by
    by_cases hp : pos < s.size
    · have hw := width_pos s pos hp
      have hf := width_fits s pos hp
      have e : plFrom s (b + 1) pos = (pos : Int) :: plFrom s b (pos + (Utf8.decode s pos).2) := by simp [plFrom, steps, hp]
      rw [e] at hx hy
      cases i with
      | zero =>
        have h2 := plFrom_head s b (pos + (Utf8.decode s pos).2) hf.2 (by omega)
        simp only [Nat.zero_add, List.getElem?_cons_succ] at hy
        rw [h2] at hy
        simp at hx hy
        omega
      | succ i =>
        simp only [List.getElem?_cons_succ] at hx hy
        exact plFrom_step s b _ hf.2 (by omega) i x y hx hy
    · rw [plFrom, steps_end s _ pos hp] at hy
      simp at hy

theorem pl_first (s : ByteArray) : (pl s)[0]? = some 0 := plFrom_head s s.size 0 (by omega) (by omega)
theorem pl_last (s : ByteArray) : (pl s)[(rn s).length]? = some (s.size : Int) := by simp [pl, rn]
theorem pl_step (s : ByteArray) (i : Nat) (x y : Int) (hx : (pl s)[i]? = some x) (hy : (pl s)[i + 1]? = some y) : x < y ∧ y ≤ x + 4 :=
  plFrom_step s s.size 0 (by omega) (by omega) i x y hx hy
theorem steps_bd (s : ByteArray) : ∀ (b pos : Nat) (x : Nat × Nat), x ∈ steps s b pos → x.1 < s.size ∧ x.2 ≤ 1114111
  | 0, _, x, h => by simp [steps] at h
  | b + 1, pos, x, h => by
    unfold steps at h
    split at h
    · rename_i hp
      rcases List.mem_cons.1 h with rfl | h
      · refine ⟨hp, ?_⟩
        show (Utf8.decode s pos).1 ≤ 1114111
        rw [Lib.decode_at]
        have hb : ∀ k, (s.get! (pos + k)).toNat < 256 := fun k => (s.get! (pos + k)).toNat_lt
        unfold Lib.decodeN
        repeat' split
        all_goals simp only
        all_goals omega
      · exact steps_bd s b _ x h
    · simp at h
theorem pl_bd (s : ByteArray) (i : Nat) (x : Int) (hx : (pl s)[i]? = some x) : 0 ≤ x ∧ x ≤ s.size := by
  have hm := List.mem_of_getElem? hx
  unfold pl at hm
  rcases List.mem_append.1 hm with h | h
  · obtain ⟨y, hy, rfl⟩ := List.mem_map.1 h
    have := (steps_bd s _ _ y hy).1
    omega
  · simp at h; omega


/-- a rune that is right -/
def right (r : Int) : Bool := decide (0 ≤ r ∧ r ≤ 1114111 ∧ (r < 55296 ∨ 57343 < r))
/-- does a text begin with another one? -/
def pre (s p : ByteArray) : Bool := decide (p.size ≤ s.size) && ((s.extract 0 p.size).data.toList == p.data.toList)

end Go.Proofs.Ytkkocnkfdepoiaa.M
