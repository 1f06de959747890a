/-
  A map from runes to texts, made of constants.
-/
import Derived.Test.YtgbhkkojkpndmaaGreatDoorTClass
namespace Go.Proofs.YtgbhkkojkpndmaaGreatDoor
open Go.RowKit
set_option maxRecDepth 20000

namespace Sh
def Mp (w : World) (b : Nat) (es : List (Int × ByteArray)) : Prop :=
  ∃ (a : Array MapEntry) (clock : Nat), w.heap[b]? = some (.map a clock) ∧ a.toList.map (fun e => (e.key, e.val)) = es.map fun x => (Value.int .i32 x.1, Value.string x.2)
theorem sameI (k z : Int) : Instr.sameNow (.int .i32) (.int .i32 k) (.int .i32 z) = some (decide (k = z)) := by
  obtain ⟨r, h1, h2⟩ := MapKept.sameNow_of_keys (d := .int .i32) (a := .int .i32 k) (b := .int .i32 z) rfl rfl
  rw [h1]
  congr 1
  rw [Bool.eq_iff_iff, h2]; simp
def got (es : List (Int × ByteArray)) (k : Int) : Option ByteArray := (es.find? fun x => decide (k = x.1)).map (·.2)
theorem findI (k : Int) : ∀ (l : List MapEntry) (es : List (Int × ByteArray)) (i : Nat), l.map (fun e => (e.key, e.val)) = es.map (fun x => (Value.int .i32 x.1, Value.string x.2)) →
    match got es k with | none => Instr.findNow (.int .i32) (.int .i32 k) l i = some none | some v => ∃ j, Instr.findNow (.int .i32) (.int .i32 k) l i = some (some (j, .string v))
  | [], [], i, _ => rfl
  | [], _ :: _, _, h => by simp at h
  | _ :: _, [], _, h => by simp at h
  | e :: l, x :: es, i, h => by
    simp only [List.map_cons, List.cons.injEq, Prod.mk.injEq] at h
    obtain ⟨⟨hk, hv⟩, ht⟩ := h
    have ih := findI k l es (i + 1) ht
    unfold got at ih ⊢
    rw [List.find?_cons]
    by_cases hx : k = x.1
    · simp only [hx, decide_true, Option.map_some]
      refine ⟨i, ?_⟩
      simp only [Instr.findNow, hk, sameI, hv, decide_true]
    · simp only [hx, decide_false]
      have e1 : Instr.findNow (.int .i32) (.int .i32 k) (e :: l) i = Instr.findNow (.int .i32) (.int .i32 k) l (i + 1) := by
        simp only [Instr.findNow, hk, sameI, hx, decide_false]
      rw [e1]; exact ih
end Sh
theorem mp_start (w : World) : ∃ w1 b, (Instr.makeMap 25 none).run Tryz.prog w = .ok (.map (some b)) w1 ∧ Sh.Mp w1 b [] ∧ Hid (w.heap.size ≤ b ∧ Below w.heap.size w w1) :=
  ⟨_, _, run_makeMap _ _, ⟨#[], 0, heap_alloc_new w _, rfl⟩, ⟨Nat.le_refl _, (Below.refl _ _).alloc (Nat.le_refl _) _⟩⟩
theorem mp_step {w w1 : World} {b : Nat} {es : List (Int × ByteArray)} (hC : Sh.Mp w1 b es) (hB : Hid (w.heap.size ≤ b ∧ Below w.heap.size w w1)) (k : Int) (v : ByteArray) (hnew : Sh.got es k = none) :
    ∃ w2, (Instr.mapUpdate 25 (.map (some b)) (.int .i32 k) (.string v)).run Tryz.prog w1 = .ok () w2 ∧ Sh.Mp w2 b (es ++ [(k, v)]) ∧ Hid (w.heap.size ≤ b ∧ Below w.heap.size w w2) := by
  obtain ⟨a, clock, h1, h2⟩ := hC
  have hf := Sh.findI k a.toList es 0 h2
  rw [hnew] at hf
  simp only at hf
  have hlt : b < w1.heap.size := (Array.getElem?_eq_some_iff.1 h1).1
  have hg : w1.grownBy ({ w1 with heap := w1.heap.setIfInBounds b (.map (a.push { key := .int .i32 k, val := .string v, born := clock }) (clock + 1)) } : World) (some b) := ⟨rfl, rfl, rfl, by simp, fun i _ hi => by
    have hne : b ≠ i := fun e => hi (by rw [e])
    simp [hne]⟩
  refine ⟨({ w1 with heap := w1.heap.setIfInBounds b (.map (a.push { key := .int .i32 k, val := .string v, born := clock }) (clock + 1)) } : World), ?_, ⟨a.push { key := .int .i32 k, val := .string v, born := clock }, clock + 1, ?_, ?_⟩, hB.out.1, hB.out.2.grown hg hB.out.2.size (fun j hj => by cases hj; exact hB.out.1)⟩
  · simp [Instr.mapUpdate, run_underlying Tryz.underlying25, MapKept.run_getObj_map h1, MapKept.run_checkKey (kt := 21) Tryz.underlying21 (show MapKept.IsKey (.int .i32) (.int .i32 k) from rfl), MapKept.run_findKey (kt := 21) Tryz.underlying21 hf, MapKept.run_setObj_map _ h1, Result.andThen]
  · simp [hlt]
  · simp [h2]
theorem mp_look {w : World} {b : Nat} {es : List (Int × ByteArray)} (hC : Sh.Mp w b es) (k : Int) (v : ByteArray) (h : Sh.got es k = some v) :
    (Instr.lookup 25 (.map (some b)) (.int .i32 k) false).run Tryz.prog w = .ok (.string v) w ∧ (Instr.lookup 25 (.map (some b)) (.int .i32 k) true).run Tryz.prog w = .ok (.tuple #[.string v, .bool true]) w := by
  obtain ⟨a, clock, h1, h2⟩ := hC
  have hf := Sh.findI k a.toList es 0 h2
  rw [h] at hf
  obtain ⟨j, hf⟩ := hf
  constructor
  · simp [Instr.lookup, run_underlying Tryz.underlying25, MapKept.run_getObj_map h1, MapKept.run_checkKey (kt := 21) Tryz.underlying21 (show MapKept.IsKey (.int .i32) (.int .i32 k) from rfl), MapKept.run_findKey (kt := 21) Tryz.underlying21 hf, Result.andThen]
  · simp [Instr.lookup, run_underlying Tryz.underlying25, MapKept.run_getObj_map h1, MapKept.run_checkKey (kt := 21) Tryz.underlying21 (show MapKept.IsKey (.int .i32) (.int .i32 k) from rfl), MapKept.run_findKey (kt := 21) Tryz.underlying21 hf, Result.andThen]
theorem mp_none {w : World} {b : Nat} {es : List (Int × ByteArray)} (hC : Sh.Mp w b es) (k : Int) (h : Sh.got es k = none) :
    (Instr.lookup 25 (.map (some b)) (.int .i32 k) true).run Tryz.prog w = .ok (.tuple #[.string ⟨#[]⟩, .bool false]) w := by
  obtain ⟨a, clock, h1, h2⟩ := hC
  have hf := Sh.findI k a.toList es 0 h2
  rw [h] at hf
  simp only at hf
  have hz := Tryz.zeroValue9
  simp [Instr.lookup, run_underlying Tryz.underlying25, MapKept.run_getObj_map h1, MapKept.run_checkKey (kt := 21) Tryz.underlying21 (show MapKept.IsKey (.int .i32) (.int .i32 k) from rfl), MapKept.run_findKey (kt := 21) Tryz.underlying21 hf, Result.andThen, hz]

end Go.Proofs.YtgbhkkojkpndmaaGreatDoor
