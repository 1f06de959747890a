/-
  What is wrong with rules and a text: what the program answers, and what the document's text answers.
-/
import Derived.Test.YtkkocnkfdepoiaaYRus
import Derived.Test.YtkkocnkfdepoiaaQBox
namespace Go.Proofs.Ytkkocnkfdepoiaa
open Go.RowKit
set_option maxRecDepth 20000
set_option linter.unusedSimpArgs false
set_option linter.unusedVariables false

set_option maxHeartbeats 2000000 in
theorem qCheck_any (w : World) (v : Value) (l : List K.Rule) (R0 : V.Rus w v l) (vt : Value) (t : List Int) (Rt : L.Rd w vt .i32 t) (ht : t.length ≤ 140737488355328) :
    Calls Try.prog 26 #[v, vt] w fun e w' => e = .returned (.agg #[.int .i64 (K.checkF l t).1, .int .i64 (K.checkF l t).2]) ∧ Below w.heap.size w w' := by
  have HA : Hid (∀ o, Below w.heap.size w (w.alloc o)) := fun o => (Below.refl _ w).alloc (Nat.le_refl _) o
  have HW : Hid (∀ o, Calls Try.prog 12 #[v] (w.alloc o) fun e w' => e = .returned (.agg #[.int .i64 (K.rulesF l).1, .int .i64 (K.rulesF l).2]) ∧ Below (w.alloc o).heap.size (w.alloc o) w') := fun o => qWrong_any _ _ l (R0.below (HA.out o))
  have HT : Hid (∀ X, Below w.heap.size w X → Calls Try.prog 45 #[vt] X fun e w' => e = .returned (.int .i64 (K.textE t)) ∧ Below X.heap.size X w') := fun X hX => mText_any X vt t (Rt.below hX (Nat.le_refl _)) ht
  obtain ⟨ao, cap, rfl⟩ := R0.len
  obtain ⟨xo, xc, rfl, _⟩ := Rt
  unfold K.checkF
  obtain ⟨⟨e1, e2⟩, he⟩ : ∃ o, K.rulesF l = o := ⟨_, rfl⟩
  rw [he] at HW ⊢
  generalize K.textE t = e3 at *
  simp only at HW ⊢
  obtain ⟨⟨o1, o2⟩, HO⟩ : ∃ o : Int × Int, Hid ((if e1 = 0 then (e3, 0) else (e1, e2)) = o) := ⟨_, rfl⟩
  rw [HO.out]
  clear he R0
  go_enter Try.func26, Try.ntmps26
  go_wp2_with fail
  refine (HW.out _).mono ?_
  rintro e w1 ⟨rfl, b1⟩
  obtain ⟨h1, B1, s1⟩ := K.one_box b1
  have HB1 : Hid (Below w.heap.size w w1) := B1
  have HX1 : Hid (w1.heap[w.heap.size]? = some (.cells #[.int .i64 0, .int .i64 0] 34)) := h1
  clear b1 B1 HW
  by_cases q : e1 = 0
  · subst q
    have ho := HO.out
    rw [if_pos rfl] at ho
    cases ho
    clear h1
    have HB2 : Hid (∀ o, Below w.heap.size w (w1.alloc o)) := fun o => HB1.out.alloc (by omega) o
    go_wp2_with fail
    refine (HT.out _ (HB2.out _)).mono ?_
    rintro e w2 ⟨rfl, b2⟩
    have HB3 : Hid (Below w.heap.size w w2) := (HB2.out _).trans (b2.mono (HB2.out _).size)
    have h2 : w2.heap[w.heap.size]? = some (.cells #[.int .i64 0, .int .i64 0] 34) := by
      rw [(K.one_box b2).2.1.block _ (by omega)]; exact HX1.out
    obtain ⟨x0, x1, f0, f1⟩ := K.box2 h2
    clear b2 h2
    go_wp2
    refine bodyPost_ret (v := .agg #[.int .i64 e3, .int .i64 0]) (by simp [results, Try.results26, go_sem, *]) rfl ?_
    exact ⟨rfl, (HB3.out.setCell (p := ⟨w.heap.size, 0, none⟩) (Nat.le_refl _) _).setCell (p := ⟨w.heap.size, 1, none⟩) (Nat.le_refl _) _⟩
  · have ho := HO.out
    rw [if_neg q] at ho
    cases ho
    obtain ⟨x0, x1, f0, f1⟩ := K.box2 h1
    have k0 : ∀ o, (w1.alloc o).cell? ⟨w.heap.size, 0, none⟩ = some (.int .i64 0) := fun o => K.alloc_cell x0 o
    have k1 : ∀ o, (w1.alloc o).cell? ⟨w.heap.size, 1, none⟩ = some (.int .i64 0) := fun o => K.alloc_cell x1 o
    have g0 : ∀ o, (w1.alloc o).frozen? ⟨w.heap.size, 0, none⟩ = false := fun o => K.alloc_free h1 o 0
    have g1 : ∀ o, (w1.alloc o).frozen? ⟨w.heap.size, 1, none⟩ = false := fun o => K.alloc_free h1 o 1
    clear h1
    go_wp2
    refine bodyPost_ret (v := .agg #[.int .i64 e1, .int .i64 e2]) (by simp [results, Try.results26, go_sem, *]) rfl ?_
    exact ⟨rfl, ((HB1.out.alloc (by omega) _).setCell (p := ⟨w.heap.size, 0, none⟩) (Nat.le_refl _) _).setCell (p := ⟨w.heap.size, 1, none⟩) (Nat.le_refl _) _⟩

end Go.Proofs.Ytkkocnkfdepoiaa

/-
  slices.Clone of runes.
-/
namespace Go.Proofs.Ytkkocnkfdepoiaa
open Go.RowKit Go.Lib
set_option maxRecDepth 20000
set_option linter.unusedSimpArgs false
set_option linter.unusedVariables false

set_option maxHeartbeats 1000000 in
theorem qclone_any (w : World) (v : Value) (t : List Int) (R : L.Rd w v .i32 t) (hl : t.length ≤ 4000) :
    Calls Try.prog 27 #[v] w fun e w' => ∃ v', e = .returned v' ∧ w'.ownsRow w.heap.size 21 1 v' t.length (K.ints t) ∧ Below w.heap.size w w' := by
  obtain ⟨ao, cap, rfl, hn, hc⟩ := R
  obtain ⟨i0, hi, hz0, hz1, hz2⟩ := info_parts Try.infoI32
  have q22 : ∀ (w : World) (a : Option Addr) (n c n' c' : Nat), (binOp .eql 28 (.slice a n c) (.slice none n' c')).run Try.prog w = .ok (.bool a.isNone) w := fun w a n c n' c' => Lib.run_eql_slice_nil w _ _ a n c n' c' Try.underlying28
  cases ao with
  | none =>
    have h0 : t = [] := by
      cases t with
      | nil => rfl
      | cons z zs => obtain ⟨b, off, h, _⟩ := hc (by simp); simp at h
    subst h0
    have := hn rfl
    subst this
    clear hc
    go_enter Try.func27, Try.ntmps27
    go_wp2
    go_ret
    exact ⟨_, rfl, World.ownsRow_nil _ _ _ _, Below.refl _ _⟩
  | some ad =>
    have HC : Hid (∀ j u, (K.ints t)[j]? = some u → w.cell? (ad.add j) = some u) := by
      intro j u hj
      obtain ⟨z, hz, rfl⟩ := K.ints_get hj
      obtain ⟨b, off, hao, hcell⟩ := hc (by intro h; subst h; simp at hz)
      simp at hao
      subst hao
      rw [L.addr_add]
      exact hcell j z hz
    clear hc
    have OW : Hid ((w.alloc (.cells #[] 21)).ownsRow w.heap.size 21 1 (.slice (some ⟨w.heap.size, 0, none⟩) 0 0) 0 []) := World.ownsRow_made w #[] 0 (Nat.le_refl _) (Nat.zero_le _) (by simp)
    go_enter Try.func27, Try.ntmps27
    go_wp2_with (at_builtin; go_must (refine wpList_append_own _ rfl _ _ 28 rfl w.heap.size 21 i0 (.int .i32 0) 1 4 Try.underlying28 hi hz0 hz1 hz2 rfl (by decide) _ _ _ rfl OW.out ad t.length cap (K.ints t) rfl (by rw [K.ints_length]; omega) (fun j u hj => Lib.cell?_alloc_some _ (HC.out j u hj)) (K.ints_one t) (by unfold maxLen; omega) (by omega) (by simp) ?_; intro v' w3 hown' hgrow3 hnil3))
    go_ret
    refine ⟨v', rfl, by simpa using hown', ?_⟩
    exact ((Below.refl _ w).alloc (Nat.le_refl _) _).grown hgrow3 (by simp) (fun k hk => (OW.out.lt k hk).1)

end Go.Proofs.Ytkkocnkfdepoiaa
