/-
  Maps keyed by two runes.
-/
import Derived.Test.YtbclmmkphjknaaaNmPart
import Derived.WideKeyArr
import Derived.Maps.Keyed
namespace Go.Proofs.Ytbclmmkphjknaaa.Nm
open Go.RowKit Go.Maps Go.WideMaps
set_option maxRecDepth 40000
set_option linter.unusedSimpArgs false
set_option linter.unusedVariables false

theorem arr2 : ArrKey Try.prog 81 21 2 := ⟨Try.underlying81, by kernel_rfl, by kernel_rfl, by kernel_rfl⟩
theorem keyed2 : Keyed Try.prog 81 := Keyed.of_law arr2.law
abbrev kv2 (p : Int × Int) : Value := .agg #[.int .i32 p.1, .int .i32 p.2]
def kl2 (p : Int × Int) : Lit := .string (keyBytes [.int .i32 p.1, .int .i32 p.2])
def ok2 (p : Int × Int) : Prop := okI p.1 ∧ okI p.2
theorem wf_i32 {r : Int} (h : okI r) : (Lit.int .i32 r).wf = true := by
  unfold okI at h
  simp only [Lit.wf, IntKind.min, IntKind.max, IntKind.signed, IntKind.bits, Bool.and_eq_true, decide_eq_true_eq, if_true]
  omega
theorem types_succ : ∃ m, Try.prog.types.size = m + 1 := by
  have h : 0 < Try.prog.types.size := of_decide_eq_true (by kernel_rfl)
  exact ⟨Try.prog.types.size - 1, by omega⟩
theorem lits_one (m : Nat) {r : Int} (h : okI r) : Try.prog.keyLits (m + 1) 21 [.int .i32 r] = some [.int .i32 r] := by
  unfold Program.keyLits
  rw [Try.underlying21]
  simp [wf_i32 h]
theorem key2 {p : Int × Int} (h : ok2 p) : keyOf Try.prog 81 (kv2 p) = some (kl2 p) := by
  obtain ⟨m, hm⟩ := types_succ
  have hk := arr2.keyType ⟨m, hm⟩
  have h1 : Try.prog.cellsOf 21 = 1 := arr2.one
  have h2 : Try.prog.cellsOf 81 = 2 := arr2.size
  have hl : Try.prog.keyLits (m + 1 + 1) 81 [.int .i32 p.1, .int .i32 p.2] = some [.int .i32 p.1, .int .i32 p.2] := by
    unfold Program.keyLits
    rw [Try.underlying81]
    simp only [h1, h2, List.length_cons, List.length_nil]
    simp [List.range, List.range.loop, lits_one m h.1, lits_one m h.2, List.mapM_cons]
  unfold keyOf
  rw [Try.underlying81]
  have hf : (kv2 p).formed Try.prog 81 = true := by simp [Value.formed, Try.underlying81, h2]
  simp only [hk, hf, Bool.and_self, if_true]
  rw [hm]
  show (Option.map _ (Try.prog.keyLits (m + 1 + 1) 81 [.int .i32 p.1, .int .i32 p.2])) = _
  rw [hl]
  rfl
theorem kl2_inj (a b : Int × Int) (ha : ok2 a) (hb : ok2 b) (h : kl2 a = kl2 b) : a = b := by
  have := keyed2.inj (key2 ha) (by rw [h]; exact key2 hb)
  have h1 := congrArg (fun v : Value => match v with | .agg c => c.toList | _ => []) this
  simp at h1
  exact Prod.ext h1.1 h1.2
theorem kl2_key (a : Int × Int) (ha : ok2 a) : WideAt.IsKeyLit (kl2 a) := keyed2.key (key2 ha)
theorem zeroR (w : World) : (zeroValue 21).run Try.prog w = .ok (.int .i32 0) w := by kernel_rfl
/-- block B is a map of at most n pairs of runes, and f says what is at each -/
abbrev MapJ (w : World) (B n : Nat) (f : Int × Int → Option Value) : Prop := MapG 81 kl2 ok2 (.int .i32 0) w B n f
end Go.Proofs.Ytbclmmkphjknaaa.Nm
