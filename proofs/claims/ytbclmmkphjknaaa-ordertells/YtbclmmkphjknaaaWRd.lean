/-
  What comes in as a text; how long it is at most.
-/
import Derived.Test.YtbclmmkphjknaaaFrame
import Derived.Deep.Slices
import Derived.SizedLaws
namespace Go.Proofs.Ytbclmmkphjknaaa
open Go.ChangeShapes Go.WideShapes Go.ChangeAt Go.RowKit

theorem Try.bytesI32 : Try.prog.bytesOf 21 = 4 := by kernel_rfl
theorem K.weights_all {H : Type} {P : Program} {e : TypeId} {d : DataW H} : ∀ {l : List (DataW H)}, d ∈ l → ∀ n ∈ d.weights P e, n ∈ DataW.weightsAll P e l
  | x :: r, h, n, hn => by
    simp only [DataW.weightsAll, List.mem_append]
    rcases List.mem_cons.1 h with rfl | h
    · exact .inl hn
    · exact .inr (weights_all h n hn)

/-- cells that read as a slice of runes -/
theorem runes_cells {H : Type} {enc : TypeId × Value → H} {W : World} {fuel : Nat} {cs : List Value} {x : DataW H × List MemPlace} (h : DataW.trod enc Try.prog W 0 (fun _ => true) true fuel 22 cs = some x) (hw : ∀ n ∈ x.1.weights Try.prog 22, n ≤ reachBytes) :
    ∃ sp c zs, cs = [.slice sp (List.length zs) c] ∧ L.Rd W (.slice sp zs.length c) .i32 zs ∧ zs.length ≤ 140737488355328 ∧ zs.length ≤ c := by
  rcases open_ints Try.underlying22 Try.underlying21 (by kernel_rfl) h with ⟨hcs, hx⟩ | ⟨a, len, cap, zs, hcs, _, hl, hm, hz, hx, hcell, hwz⟩
  · exact ⟨none, 0, [], hcs, ⟨none, 0, rfl, fun _ => rfl, fun h => absurd rfl h⟩, by simp, by simp⟩
  · subst hx
    simp only [if_true] at hz
    have hlt : (zs.take len).length = len := by rw [List.length_take]; omega
    have h1 := hw ((zs.take len).length * 4 + (zs.drop len).length * 4) (by
      simp only [DataW.weights, Try.underlying22, Try.bytesI32, lits, List.length_map]
      rw [← Nat.add_mul]
      exact List.mem_cons_self)
    refine ⟨some a, cap, zs.take len, by rw [hcs, hlt], ⟨_, cap, rfl, (fun h => by cases h), fun hne => ?_⟩, by unfold reachBytes at h1; omega, by omega⟩
    have h0 : 0 < zs.length := by
      cases zs with
      | nil => simp at hne
      | cons => simp
    obtain ⟨b, off, rfl, _⟩ := ints_at hcell h0
    refine ⟨b, off, rfl, fun j z hj => ?_⟩
    have hj2 : j < zs.length := by
      have := (List.getElem?_eq_some_iff.1 hj).1
      rw [hlt] at this
      omega
    have h3 := hcell j hj2
    rw [L.addr_add] at h3
    rw [h3]
    have h4 : zs[j]? = some z := by
      rw [List.getElem?_take] at hj
      split at hj
      · exact hj
      · simp at hj
    simp [List.getD, h4]

end Go.Proofs.Ytbclmmkphjknaaa

/-
  Texts that are read.
-/
namespace Go.Proofs.Ytbclmmkphjknaaa
open Go.RowKit
namespace Ws
/-- texts that are read -/
def Rd (w : World) (v : Value) (ts : List (List Int)) : Prop :=
  ∃ ao cap, v = .slice ao ts.length cap ∧ (ao = none → cap = 0) ∧ (ts ≠ [] → ∃ b off, ao = some ⟨b, off, none⟩ ∧ ∀ j t, ts[j]? = some t → ∃ u, w.cell? ⟨b, off + j, none⟩ = some u ∧ L.Rd w u .i32 t)
theorem Rd.below {w w' : World} {v : Value} {ts : List (List Int)} (h : Rd w v ts) (hb : Below w.heap.size w w') : Rd w' v ts := by
  obtain ⟨ao, cap, hv, hn, hc⟩ := h
  refine ⟨ao, cap, hv, hn, fun hne => ?_⟩
  obtain ⟨b, off, e, hcell⟩ := hc hne
  refine ⟨b, off, e, fun j t hj => ?_⟩
  obtain ⟨u, h1, h2⟩ := hcell j t hj
  exact ⟨u, by rw [hb.cell (p := ⟨b, off + j, none⟩) (L.block_lt h1)]; exact h1, h2.below hb (Nat.le_refl _)⟩
end Ws
end Go.Proofs.Ytbclmmkphjknaaa
