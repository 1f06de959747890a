/-
  What the closure of the document's Of answers; small laws.
-/
import Derived.Test.YtdmpmkcigjkilaaSEdges
import Derived.Test.YtdmpmkcigjkilaaSRefHas
namespace Go.Proofs.Ytdmpmkcigjkilaa
open Go.RowKit

theorem bad_none {l : List S.Sp} (h : S.Nf 0 l) : l.any S.bad = false := by
  rw [List.any_eq_false]
  intro x hx
  have := S.bad_false.2 (h.mem hx)
  simp [this]

theorem two_cells2 (w : World) (x y : Value) (t : TypeId) (i : Nat) (v : Value) (h : [x, y][i]? = some v) : (w.alloc (.cells #[x, y] t)).cell? ⟨w.heap.size, i, none⟩ = some v := by
  match i, h with
  | 0, h => simp at h; subst h; rw [World.cell?_alloc_at _ _ _ _ (by simp)]; rfl
  | 1, h => simp at h; subst h; rw [World.cell?_alloc_at _ _ _ _ (by simp)]; rfl
  | i + 2, h => simp at h
theorem one_cells2 (w : World) (x : Value) (t : TypeId) (i : Nat) (v : Value) (h : [x][i]? = some v) : (w.alloc (.cells #[x] t)).cell? ⟨w.heap.size, i, none⟩ = some v := by
  match i, h with
  | 0, h => simp at h; subst h; rw [World.cell?_alloc_at _ _ _ _ (by simp)]; rfl
  | i + 1, h => simp at h

set_option maxHeartbeats 400000 in
/-- the closure of Of: whether the spans have it -/
theorem of1h_any (bs : Nat) (v : Value) (l : List S.Sp) (w W : World) (r : Int) (R : S.Rd w v l) (hl : l.length ≤ 17592186043904) (hbs : bs < w.heap.size) (hc : w.cell? ⟨bs, 0, none⟩ = some v) (hB : Below w.heap.size w W) :
    Calls Try.prog 94 (#[.int .i32 r] ++ #[.pointer (some ⟨bs, 0, none⟩)]) W fun e w' => e = .returned (.bool (S.memb l r)) ∧ Below W.heap.size W w' := by
  have hh := refhas_any W v l r (R.below hB (Nat.le_refl _)) (by omega)
  have c := hc
  rw [← hB.cell (p := ⟨bs, 0, none⟩) hbs] at c
  obtain ⟨aa, ca, rfl⟩ := R.len
  clear R hc
  show Calls Try.prog 94 #[.int .i32 r, .pointer (some ⟨bs, 0, none⟩)] W _
  generalize S.memb l r = mm at *
  go_enter Try.func94, Try.ntmps94
  go_wp2_with fail
  refine hh.mono ?_
  clear hh
  rintro e w1 ⟨rfl, b1⟩
  go_wp2
  go_ret
  exact ⟨rfl, b1⟩

end Go.Proofs.Ytdmpmkcigjkilaa
