/-
  The closure within the document's Edges: one number is put into a rising list.
-/
import Derived.Test.YtginejblmkiamaaSEdgeN
import Derived.Test.YtginejblmkiamaaSEdgeA
import Derived.Test.YtginejblmkiamaaSEdgeB
import Derived.Test.YtginejblmkiamaaSEdgeC
namespace Go.Proofs.Ytginejblmkiamaa
open Go.RowKit

theorem put_any (W : World) (B bo g cap : Nat) (zs : List Int) (r : Int) (X : S.Bx W bo 52 (.slice (some ⟨g, 0, none⟩) zs.length cap)) (own : W.ownsRow B 21 1 (.slice (some ⟨g, 0, none⟩) zs.length cap) zs.length (zs.map (Value.int .i32))) (hbo : bo < W.heap.size) (hB : B ≤ W.heap.size)
    (hl : zs.length ≤ 1099511627776) :
    Calls Try.prog 55 #[.int .i32 r, .pointer (some ⟨bo, 0, none⟩)] W fun e w' => e = .returned (.tuple #[]) ∧ ∃ g' cap', S.Bx w' bo 52 (.slice (some ⟨g', 0, none⟩) (S.insF zs r).length cap') ∧ w'.ownsRow B 21 1 (.slice (some ⟨g', 0, none⟩) (S.insF zs r).length cap') (S.insF zs r).length ((S.insF zs r).map (Value.int .i32)) ∧ W.grownBy w' (some bo) := by
  by_cases h : 1114111 < r ∨ zs[S.lowF zs r]? = some r
  · exact put_no W B bo g cap zs r X own hbo hB hl h
  · by_cases h1 : S.lowF zs r < zs.length
    · exact put_mid W B bo g cap zs r X own hbo hB hl ⟨h, h1⟩
    · have h2 : S.lowF zs r = zs.length := by have := S.lowF_le zs r; omega
      by_cases h3 : cap = zs.length
      · exact put_full W B bo g cap zs r X own hbo hB hl ⟨h, h2, h3⟩
      · exact put_room W B bo g cap zs r X own hbo hB hl ⟨h, h2, h3⟩

end Go.Proofs.Ytginejblmkiamaa
