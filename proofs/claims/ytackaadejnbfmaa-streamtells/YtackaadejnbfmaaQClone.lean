/-
  Boxes, behind an alloc.
-/
import Derived.Test.YtackaadejnbfmaaFrame
import Derived.Test.YtackaadejnbfmaaQApp
namespace Go.Proofs.Ytackaadejnbfmaa
open Go.RowKit

theorem K.alloc_free {w : World} {g : Nat} {c : Array Value} {t : TypeId} (h : w.heap[g]? = some (.cells c t)) (o : Obj) (i : Nat) : (w.alloc o).frozen? ⟨g, i, none⟩ = false := by
  have e : (w.alloc o).heap[g]? = w.heap[g]? := Below.heap_alloc w o g (Array.getElem?_eq_some_iff.1 h).1
  rw [World.frozen?, show (w.alloc o).heap[(⟨g, i, none⟩ : Addr).block]? = w.heap[g]? from e, h]
  simp

theorem K.alloc_cell {w : World} {a : Addr} {v : Value} (h : w.cell? a = some v) (o : Obj) : (w.alloc o).cell? a = some v := by
  have e : (w.alloc o).heap[a.block]? = w.heap[a.block]? := Below.heap_alloc w o a.block (World.block_lt_of_cell? w a h)
  rw [World.cell?_of_block e]; exact h


end Go.Proofs.Ytackaadejnbfmaa

/-
  slices.Clone of runes.
-/
namespace Go.Proofs.Ytackaadejnbfmaa
open Go.RowKit Go.Lib
set_option maxRecDepth 20000
set_option linter.unusedSimpArgs false
set_option linter.unusedVariables false

set_option maxHeartbeats 1000000 in
theorem qclone_any (w : World) (v : Value) (t : List Int) (R : L.Rd w v .i32 t) (hl : t.length ≤ 4000) :
    Calls Try.prog 56 #[v] w fun e w' => ∃ v', e = .returned v' ∧ w'.ownsRow w.heap.size 21 1 v' t.length (K.ints t) ∧ Below w.heap.size w w' := by
  obtain ⟨ao, cap, rfl, hn, hc⟩ := R
  obtain ⟨i0, hi, hz0, hz1, hz2⟩ := info_parts Try.infoI32
  have q22 : ∀ (w : World) (a : Option Addr) (n c n' c' : Nat), (binOp .eql 23 (.slice a n c) (.slice none n' c')).run Try.prog w = .ok (.bool a.isNone) w := fun w a n c n' c' => Lib.run_eql_slice_nil w _ _ a n c n' c' Try.underlying23
  cases ao with
  | none =>
    have h0 : t = [] := by
      cases t with
      | nil => rfl
      | cons z zs => obtain ⟨b, off, h, _⟩ := hc (by simp); simp at h
    subst h0
    have := hn rfl
    subst this
    clear hc
    go_enter Try.func56, Try.ntmps56
    go_wp2
    go_ret
    exact ⟨_, rfl, World.ownsRow_nil _ _ _ _, Below.refl _ _⟩
  | some ad =>
    have HC : Hid (∀ j u, (K.ints t)[j]? = some u → w.cell? (ad.add j) = some u) := by
      intro j u hj
      obtain ⟨z, hz, rfl⟩ := K.ints_get hj
      obtain ⟨b, off, hao, hcell⟩ := hc (by intro h; subst h; simp at hz)
      simp at hao
      subst hao
      rw [L.addr_add]
      exact hcell j z hz
    clear hc
    have OW : Hid ((w.alloc (.cells #[] 21)).ownsRow w.heap.size 21 1 (.slice (some ⟨w.heap.size, 0, none⟩) 0 0) 0 []) := World.ownsRow_made w #[] 0 (Nat.le_refl _) (Nat.zero_le _) (by simp)
    go_enter Try.func56, Try.ntmps56
    go_wp2_with (at_builtin; go_must (refine wpList_append_own _ rfl _ _ 23 rfl w.heap.size 21 i0 (.int .i32 0) 1 4 Try.underlying23 hi hz0 hz1 hz2 rfl (by decide) _ _ _ rfl OW.out ad t.length cap (K.ints t) rfl (by rw [K.ints_length]; omega) (fun j u hj => Lib.cell?_alloc_some _ (HC.out j u hj)) (K.ints_one t) (by unfold maxLen; omega) (by omega) (by simp) ?_; intro v' w3 hown' hgrow3 hnil3))
    go_ret
    refine ⟨v', rfl, by simpa using hown', ?_⟩
    exact ((Below.refl _ w).alloc (Nat.le_refl _) _).grown hgrow3 (by simp) (fun k hk => (OW.out.lt k hk).1)

end Go.Proofs.Ytackaadejnbfmaa
