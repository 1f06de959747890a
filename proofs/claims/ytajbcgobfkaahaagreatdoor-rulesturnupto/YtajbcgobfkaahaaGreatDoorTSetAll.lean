/-
  A set at any place of a text: what Set reads; and a cursor that has just been laid.
-/
import Derived.Test.YtajbcgobfkaahaaGreatDoorTWhole
namespace Go.Proofs.YtajbcgobfkaahaaGreatDoor
open Go.RowKit
set_option maxRecDepth 20000

theorem set_all (hC : T.ClassOk) (cb tb cap : Nat) (ao : Option Addr) (l : List Int) : ∀ n, n ≤ 20 → T.SetOk cb tb cap ao l ((21 - n : Nat) : Int) (T.setN n l) := by
  intro n
  induction n with
  | zero => intro _ w p C; exact set_deep w cb tb cap p ao l C
  | succ n ih =>
    intro hn
    have h := ih (by omega)
    have e : ((21 - n : Nat) : Int) = ((20 - n : Nat) : Int) + 1 := by omega
    rw [e] at h
    have e2 : (21 - (n + 1) : Nat) = 20 - n := by omega
    rw [e2]
    exact set_step hC n (by omega) cb tb cap ao l h

theorem Set_any (hK : T.ClassOk) (w : World) (cb tb cap p : Nat) (ao : Option Addr) (l : List Int) (C : T.Cur w cb tb cap ao l p) :
    Calls Tryz.prog 85 #[.pointer (some ⟨cb, 0, none⟩)] w (T.Ends w cb tb cap ao l (T.setN 20 l p) (T.isSetF w.heap.size)) := by
  have HC : Hid (T.Cur w cb tb cap ao l p) := C
  have HS : Hid (T.SetOk cb tb cap ao l ((21 - 20 : Nat) : Int) (T.setN 20 l)) := set_all hK cb tb cap ao l 20 (Nat.le_refl _)
  clear C
  obtain ⟨o, HO⟩ : ∃ o, Hid (T.setN 20 l p = o) := ⟨_, rfl⟩
  rw [HO.out]
  go_enter Tryz.func85, Tryz.ntmps85
  go_wp2_with fail
  refine (HS.out _ _ HC.out).mono ?_
  intro e w2 h
  rw [HO.out] at h
  cases o with
  | bad er q =>
    obtain ⟨rfl, g2⟩ := h
    unfold T.thrown
    go_wp2
    exact ⟨rfl, rfl, g2⟩
  | ok t q =>
    obtain ⟨v2, rfl, hv2, C2, g2⟩ := h
    have HV2 : Hid (T.isSetF w.heap.size t v2 w2) := hv2
    have HC2 : Hid (T.Cur w2 cb tb cap ao l q) := C2
    have HG2 : Hid (w.grownBy w2 (some cb)) := g2
    obtain ⟨vo, vc, hv⟩ := hv2.1.1.len
    subst hv
    clear hv2 C2 g2
    go_wp2
    go_ret
    exact ⟨_, rfl, HV2.out, HC2.out, HG2.out⟩

/-- a cursor that has just been laid -/
theorem T.Cur.new {w : World} {B : Nat} {v : Value} {l : List Int} (ty : TypeId) (own : w.ownsRow B 21 1 v l.length (l.map (Value.int .i32))) (hl : l.length ≤ 16000) (hr : ∀ z ∈ l, M.right z = true) :
    ∃ ao cap tb, v = .slice ao l.length cap ∧ T.Cur (w.alloc (.cells #[v, .int .i64 0] ty)) w.heap.size tb cap ao l 0 := by
  have hc := fun g hg => World.ownsRow.cells own (g := g) hg
  rcases own.2 with ⟨rfl, h0⟩ | ⟨g, cap, cur, rfl, hBg, hgg, hcap, _⟩
  · have hnil : l = [] := by simpa using h0
    subst hnil
    exact ⟨none, 0, w.heap.size + 1, rfl, ⟨ty, heap_alloc_new w _⟩, fun h => absurd rfl h, fun j z hj => by simp at hj, by omega, Nat.zero_le _, hl, Nat.zero_le _, hr⟩
  · have hlt : g < w.heap.size := (Array.getElem?_eq_some_iff.1 hgg).1
    refine ⟨_, cap, g, rfl, ⟨ty, heap_alloc_new w _⟩, fun _ => rfl, fun j z hj => ?_, by omega, Nat.zero_le _, hl, hcap, hr⟩
    have := hc g rfl j (.int .i32 z) (by simp [hj])
    rw [L.addr_add, Nat.zero_add] at this
    rw [World.cell?_of_block (a := ⟨g, j, none⟩) (Below.heap_alloc w _ g hlt)]
    exact this

end Go.Proofs.YtajbcgobfkaahaaGreatDoor
