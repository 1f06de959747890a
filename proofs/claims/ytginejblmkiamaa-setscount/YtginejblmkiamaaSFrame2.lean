/-
  A slice of spans that came in: how long it is at most, by the reach.
-/
import Derived.Test.YtginejblmkiamaaSFrame
import Derived.Deep.Slices
import Derived.SizedLaws
namespace Go.Proofs.Ytginejblmkiamaa
open Go.ChangeShapes Go.WideShapes Go.ChangeAt Go.RowKit

theorem Try.bytesSp : Try.prog.bytesOf 42 = 8 := by kernel_rfl

theorem spans_rd2 {H : Type} {enc : TypeId × Value → H} {W : World} {base : Nat} {v : Value} {d : DataW H} {p : List MemPlace}
    (hv : Value.okWide Try.prog W .any base 22 v) (h : DataW.Trod enc Try.prog W 0 (fun _ => true) true 22 v d p) (hw : ∀ n ∈ d.weights Try.prog 22, n ≤ reachBytes) :
    ∃ l : List S.Sp, S.Rd W v l ∧ S.Fit l ∧ l.length ≤ 17592186043904 ∧ ∀ ao n c, v = .slice ao n c → n ≤ c := by
  obtain ⟨l, R, F, _, hc⟩ := spans_rd hv h
  refine ⟨l, R, F, ?_, hc⟩
  obtain ⟨ao, cap, rfl⟩ := R.len
  obtain ⟨fuel, hf⟩ := h
  rcases Go.Deep.open_slice Try.underlying22 hf with ⟨hcs, hx⟩ | ⟨a, len, cap', m, n, D, Pl, hcs, _, hl, hm, hmm, hx, hcell⟩
  · simp [Value.cells] at hcs
    obtain ⟨_, rfl, _⟩ := hcs
    simp
  · simp [Value.cells] at hcs
    obtain ⟨rfl, rfl, rfl⟩ := hcs
    simp only [Prod.mk.injEq] at hx
    obtain ⟨rfl, rfl⟩ := hx
    have h1 := hw ((((List.range l.length).map D).length + ((List.range (m - l.length)).map fun j => D (l.length + j)).length) * 8) (by
      simp only [DataW.weights, Try.underlying22, Try.bytesSp]
      exact List.mem_cons_self)
    simp only [List.length_map, List.length_range, reachBytes] at h1
    omega

end Go.Proofs.Ytginejblmkiamaa
