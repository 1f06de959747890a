/-
  What the laws of arrows, dashes, points and telex share: a scan over bytes is the text of what the rules make; rows of texts just laid.
-/
import Derived.Test.YtgbhkkojkpndmaaGreatDoorShScan
import Derived.Test.YtgbhkkojkpndmaaGreatDoorShWhole
import Derived.Test.YtgbhkkojkpndmaaGreatDoorShScrT
namespace Go.Proofs.YtgbhkkojkpndmaaGreatDoor
open Go.RowKit Go.Lib
set_option maxRecDepth 20000
set_option linter.unusedSimpArgs false
set_option linter.unusedVariables false
namespace Sh
theorem sc_right {l : List Sr} (hl : ∀ x ∈ l, ∀ z ∈ x.2, M.right z = true) : ∀ (n : Nat) (t : List Int), (∀ z ∈ t, M.right z = true) → ∀ z ∈ sc l n t, M.right z = true := by
  intro n
  induction n with
  | zero => intro t ht; exact ht
  | succ n ih =>
    intro t ht
    cases t with
    | nil => intro z hz; cases hz
    | cons r t =>
      rw [sc]
      cases hp : pfx l (r :: t) with
      | none =>
        intro z hz
        rcases List.mem_cons.1 hz with rfl | hz
        · exact ht _ (List.mem_cons_self ..)
        · exact ih t (fun z hz => ht z (List.mem_cons_of_mem _ hz)) z hz
      | some x =>
        intro z hz
        rcases List.mem_append.1 hz with hz | hz
        · exact hl x (pfx_len hp).1 z hz
        · exact ih _ (fun z hz => ht z (List.mem_of_mem_drop hz)) z hz
theorem scan_want {l : List Sr} (hl : ∀ x ∈ l, x.1 ≠ [] ∧ Asc x.1) {s : ByteArray} (h : M.sp s.data.toList = 0) : bA (bs (l.map eb) (bL s)) = runesBytes (sc l (8 * (M.rn s).length + 40) (M.rn s)) := by
  have e := whole_bytes h
  have e2 : bL s = T.bytesR (M.rn s) := e.symm
  have e3 : runesBytes (sc l (8 * (M.rn s).length + 40) (M.rn s)) = ⟨(T.bytesR (sc l (8 * (M.rn s).length + 40) (M.rn s))).toArray⟩ := by
    apply ByteArray.ext
    apply Array.toList_inj.1
    rw [zaq]; rfl
  rw [e3, e2]
  unfold bs
  rw [bsc_bytes hl (8 * (M.rn s).length + 40) (M.rn s) (zcq s) (by omega) _ (Nat.le_refl _)]
  rfl
theorem row_new (w : World) (l : List (List UInt8)) (ty : TypeId) (C : Array Value) (hC : C = (l.map fun x => Value.string (bA x)).toArray) : Row (w.alloc (.cells C ty)) w.heap.size l := by
  subst hC
  intro j x hj
  have h := World.cell?_alloc_mark w (l.map fun x => Value.string (bA x)).toArray ty (0, 0) j
  rw [h]
  simp [hj]
theorem row_old {w : World} {b : Nat} {l : List (List UInt8)} (h : Row w b l) (o : Obj) : Row (w.alloc o) b l := fun j x hj => K.zaj (h j x hj) o
theorem row_two (w : World) (l m : List (List UInt8)) (ty : TypeId) (C D : Array Value) (hC : C = (l.map fun x => Value.string (bA x)).toArray) (hD : D = (m.map fun x => Value.string (bA x)).toArray) :
    Row ((w.alloc (.cells C ty)).alloc (.cells D ty)) w.heap.size l ∧ Row ((w.alloc (.cells C ty)).alloc (.cells D ty)) (w.heap.size + 1) m := by
  refine ⟨row_old (row_new w l ty C hC) _, ?_⟩
  have h := row_new (w.alloc (.cells C ty)) m ty D hD
  rw [show (w.alloc (.cells C ty)).heap.size = w.heap.size + 1 by simp] at h
  exact h
end Sh
/-- how much comes in (as in Frame) -/
theorem bulk_appW {H : Type} : ∀ l r : List (DataW H), Rows.uptoBulkAll (l ++ r) = Rows.uptoBulkAll l + Rows.uptoBulkAll r
  | [], r => by simp [Rows.uptoBulkAll]
  | x :: l, r => by simp only [List.cons_append, Rows.uptoBulkAll, bulk_appW l r]; omega
theorem bulk_bdW {H : Type} {l : List (DataW H)} (hk : Rows.uptoSmall H l = true) : Rows.uptoBulkAll l ≤ 1048576 := of_decide_eq_true hk
theorem bulk_stringW {H : Type} (s : ByteArray) : Rows.uptoBulk (DataW.lit (H := H) (.string s.data.toList)) = s.size + 1 := by
  have e : s.data.toList.length = s.size := by rw [Array.length_toList]; rfl
  simp only [Rows.uptoBulk, e]

end Go.Proofs.YtgbhkkojkpndmaaGreatDoor
