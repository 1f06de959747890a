/-
  scriptlaw10.CompileTells: it returns true.
-/
import Derived.Test.YtnalcmlhfmgfdaaJRef
import Derived.Test.YtnalcmlhfmgfdaaJSame
namespace Go.Proofs.Ytnalcmlhfmgfdaa
open Go.RowKit Go.Shelf
set_option maxRecDepth 20000
set_option linter.unusedSimpArgs false
set_option linter.unusedVariables false

set_option maxHeartbeats 4000000 in
theorem compileTells_any (w : World) (v : Value) (l : List K.Rule) (R0 : V.Rus w v l) :
    Calls Try.prog 4 #[v] w fun e w' => e = .returned (.bool true) ∧ Below w.heap.size w w' := by
  have HC := jCompile_any w v l R0
  have HR : Hid (V.Rus w v l) := R0
  have HBl : Hid (∀ q, (J.begins l q).length ≤ 4611686018427387903) := fun q => by
    have h1 := R0.few
    have h2 := J.which_len (fun r => S.memb (K.headS r) q) l 0
    unfold J.begins
    omega
  obtain ⟨ao, cap, rfl⟩ := R0.len
  clear R0
  go_enter Try.func4, Try.ntmps4
  go_wp2_with fail
  refine HC.mono ?_
  rintro e w1 ⟨v1, ⟨hs, e1, e2⟩, hco, rfl, hO, b1⟩
  clear HC
  have hrd := hO.rd
  obtain ⟨o1, c1, rfl⟩ := hO.len
  have HHl : Hid (hs.length ≤ 400 ∧ ∀ p ∈ hs, p.2.2.length ≤ 4611686018427387903) := by
    rcases hco with ⟨_, h⟩ | ⟨_, c, _, _, ⟨_, h⟩ | ⟨h0, h⟩⟩
    · have : hs = [] := congrArg Prod.fst h
      subst this
      exact ⟨by simp, fun p hp => by cases hp⟩
    · have : hs = [] := congrArg Prod.fst h
      subst this
      exact ⟨by simp, fun p hp => by cases hp⟩
    · have : hs = J.heads (J.begins l) c (c.length - 1) := congrArg Prod.fst h
      subst this
      refine ⟨by rw [J.heads_len]; exact h0, fun p hp => ?_⟩
      obtain ⟨k, _, rfl⟩ := List.mem_map.1 hp
      exact HBl.out _
  have hd : ∀ o, Below w.heap.size w (w1.alloc o) := fun o => b1.alloc b1.size o
  have HRf : Hid (∀ o, Calls Try.prog 10 #[.slice ao l.length cap] (w1.alloc o) fun e w' => ∃ o2 c2, e = .returned (.tuple #[.slice o2 hs.length c2, .agg #[.int .i64 e1, .int .i64 e2]]) ∧ J.Rd w' (.slice o1 hs.length c1) hs ∧ J.Rd w' (.slice o2 hs.length c2) hs ∧ Below w.heap.size w w' ∧ (w1.alloc o).heap.size ≤ w'.heap.size ∧ Below (w1.alloc o).heap.size (w1.alloc o) w') := fun o => by
    refine (rCompile_any (w1.alloc o) _ l (HR.out.below (hd o))).mono ?_
    rintro e w' ⟨v', o', h1, h2, h3, h4⟩
    have := J.comp_unique hco h1
    subst this
    obtain ⟨o2, c2, rfl⟩ := h3.len
    exact ⟨o2, c2, h2, (hrd.below ((Below.refl _ w1).alloc (Nat.le_refl _) o)).below h4, h3.rd, (hd o).trans (h4.mono (hd o).size), h4.size, h4⟩
  have HBx : Hid (w1.heap.size < (w1.alloc (.cells #[.int .i64 e1, .int .i64 e2] 28)).heap.size ∧ (w1.alloc (.cells #[.int .i64 e1, .int .i64 e2] 28)).heap[w1.heap.size]? = some (.cells #[.int .i64 e1, .int .i64 e2] 28)) := ⟨by simp, by show (w1.heap.push _)[w1.heap.size]? = _; exact Array.getElem?_push_size⟩
  clear hrd hO b1 hco hd
  go_wp2_with fail
  refine (HRf.out _).mono ?_
  rintro e w2 ⟨o2, c2, rfl, ra, rb, b2, s2, b3⟩
  have hx := K.blk_below HBx.out.2 b3
  obtain ⟨x0, x1, _, _⟩ := K.box2 hx
  have k0 : ∀ o, (w2.alloc o).cell? ⟨w1.heap.size, 0, none⟩ = some (.int .i64 e1) := fun o => K.alloc_cell x0 o
  have k1 : ∀ o, (w2.alloc o).cell? ⟨w1.heap.size, 1, none⟩ = some (.int .i64 e2) := fun o => K.alloc_cell x1 o
  have HSm : Hid (∀ o, Calls Try.prog 13 #[.slice o1 hs.length c1, .slice o2 hs.length c2] (w2.alloc o) fun e w' => e = .returned (.bool true) ∧ Below w.heap.size w w') := fun o => by
    have hal : Below w2.heap.size w2 (w2.alloc o) := (Below.refl _ w2).alloc (Nat.le_refl _) o
    refine (jSame_eq (w2.alloc o) _ _ hs (ra.below hal) (rb.below hal) (by have := HHl.out.1; omega) HHl.out.2).mono ?_
    rintro e w' ⟨h1, h2⟩
    exact ⟨h1, (b2.trans (hal.mono b2.size)).trans (h2.mono (by have := b2.size; simp; omega))⟩
  have hw21 : w1.heap.size < w2.heap.size := by have := HBx.out.1; omega
  clear ra rb b2 b3 hx x0 x1 HRf
  go_wp2_with (first | (go_at_call 13; refine (HSm.out _).mono ?_; rintro e w5 ⟨rfl, b5⟩; have HB5 : Hid (Below w.heap.size w w5) := b5; clear b5) | fail)
  go_ret
  exact ⟨rfl, HB5.out⟩

end Go.Proofs.Ytnalcmlhfmgfdaa
