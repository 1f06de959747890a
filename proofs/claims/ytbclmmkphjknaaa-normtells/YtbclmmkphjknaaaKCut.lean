/-
  Slices of runes, cut (no more than the library's and Lib's).
-/
import Derived.Test.YtbclmmkphjknaaaRows
import Derived.Test.YtbclmmkphjknaaaLib
namespace Go.Proofs.Ytbclmmkphjknaaa
open Go.RowKit
set_option maxRecDepth 20000
set_option linter.unusedSimpArgs false
set_option linter.unusedVariables false

namespace K
/-- a text's slice, cut -/
theorem rd_take {w : World} {xo : Option Addr} {xc : Nat} {t : List Int} (h : L.Rd w (.slice xo t.length xc) .i32 t) {n : Nat} (hn : n ≤ t.length) : L.Rd w (.slice xo n xc) .i32 (t.take n) := by
  obtain ⟨ao, cap, he, hz, hc⟩ := h
  cases he
  refine ⟨xo, xc, by rw [List.length_take, Nat.min_eq_left hn], hz, fun hne => ?_⟩
  obtain ⟨b, off, rfl, hcell⟩ := hc (by intro h; subst h; simp at hne)
  refine ⟨b, off, rfl, fun j z hj => hcell j z ?_⟩
  rw [List.getElem?_take] at hj
  split at hj
  · exact hj
  · cases hj
theorem rd_drop {w : World} {xo : Option Addr} {xc : Nat} {t : List Int} (h : L.Rd w (.slice xo t.length xc) .i32 t) {d : Nat} (hd : d ≤ t.length) (hcap : t.length ≤ xc) : L.Rd w (.slice (if xc = d then xo else Option.map (fun x => x.add d) xo) (t.length - d) (xc - d)) .i32 (t.drop d) := by
  obtain ⟨ao, cap, he, hz, hc⟩ := h
  cases he
  refine ⟨_, _, by rw [List.length_drop], fun e => ?_, fun hne => ?_⟩
  · cases xo with
    | none => rw [hz rfl]; simp
    | some a => split at e <;> cases e
  · have hp := List.length_pos_iff.2 hne
    rw [List.length_drop] at hp
    obtain ⟨b, off, rfl, hcell⟩ := hc (by intro h; subst h; simp at hp)
    rw [if_neg (by omega)]
    refine ⟨b, off + d, by rw [Option.map_some, L.addr_add], fun j z hj => ?_⟩
    rw [List.getElem?_drop] at hj
    rw [Nat.add_assoc]
    exact hcell _ z hj
end K

theorem K.slice_upto (xo : Option Addr) (N xc n : Nat) (h : n ≤ xc) (w' : World) : (Instr.slice 22 (.slice xo N xc) none (some (.int .i64 (n : Int))) none).run Try.prog w' = .ok (.slice xo n xc) w' := by
  have a1 : (n : Int) ≤ xc := by omega
  have a0 : (0 : Int) ≤ n := by omega
  go_simp
theorem K.slice_from (xo : Option Addr) (N xc D : Nat) (h : D ≤ N) (hc : N ≤ xc) (w' : World) : (Instr.slice 22 (.slice xo N xc) (some (.int .i64 (D : Int))) none none).run Try.prog w' = .ok (.slice (if xc = D then xo else Option.map (fun x => x.add D) xo) (N - D) (xc - D)) w' := by
  have a1 : (D : Int) ≤ N := by omega
  have a2 : (N : Int) ≤ xc := by omega
  have a0 : (0 : Int) ≤ D := by omega
  go_simp

end Go.Proofs.Ytbclmmkphjknaaa
