/-
  slices.Clone of runes (by append's run equation alone).
-/
import Derived.Test.YtbclmmkphjknaaaKInts
import Derived.Lib.AppendZeros
namespace Go.Proofs.Ytbclmmkphjknaaa
open Go.RowKit Go.Lib
set_option maxRecDepth 20000
set_option linter.unusedSimpArgs false
set_option linter.unusedVariables false

set_option maxHeartbeats 1000000 in
theorem kClone_any (w : World) (v : Value) (t : List Int) (R : L.Rd w v .i32 t) (hl : t.length ≤ 1000000) :
    Calls Try.prog 33 #[v] w fun e w' => ∃ v', e = .returned v' ∧ w'.ownsRow w.heap.size 21 1 v' t.length (K.ints t) ∧ Below w.heap.size w w' := by
  have R0 := R
  obtain ⟨ao, cap, rfl, hn, hc⟩ := R
  have q22 : ∀ (w : World) (a : Option Addr) (n c n' c' : Nat), (binOp .eql 22 (.slice a n c) (.slice none n' c')).run Try.prog w = .ok (.bool a.isNone) w := fun w a n c n' c' => Lib.run_eql_slice_nil w _ _ a n c n' c' Try.underlying22
  cases ao with
  | none =>
    have h0 : t = [] := by
      cases t with
      | nil => rfl
      | cons z zs => obtain ⟨b, off, h, _⟩ := hc (by simp); simp at h
    subst h0
    have := hn rfl
    subst this
    clear hc R0
    go_enter Try.func33, Try.ntmps33
    go_wp2
    go_ret
    exact ⟨_, rfl, World.ownsRow_nil _ _ _ _, Below.refl _ _⟩
  | some ad =>
    clear hc hn
    have b0 : Below w.heap.size w (w.alloc (.cells #[] 21)) := (Below.refl _ w).alloc (Nat.le_refl _) _
    obtain ⟨v3, w3, run3, own3, gr3, _⟩ := K.app_rd (w.alloc (.cells #[] 21)) w.heap.size (.slice (some ⟨w.heap.size, 0, none⟩) 0 0) [] (World.ownsRow_made w #[] 0 (Nat.le_refl _) (Nat.zero_le _) (by simp)) _ t (R0.below b0 (Nat.le_refl _)) (by simp; omega) b0.size
    have HE : Hid (w3.ownsRow w.heap.size 21 1 v3 t.length (K.ints t) ∧ Below w.heap.size w w3) := ⟨by simpa using own3, b0.grown gr3 b0.size fun k hk => by simp [Value.ownBlock] at hk; omega⟩
    clear own3 gr3 b0 R0
    go_enter Try.func33, Try.ntmps33
    go_wp2_with (at_builtin; first | refine Lib.wpList_append_run _ rfl _ _ _ _ rfl _ _ rfl rfl _ _ (run3 _) ?_)
    go_ret
    exact ⟨v3, rfl, HE.out⟩

end Go.Proofs.Ytbclmmkphjknaaa
