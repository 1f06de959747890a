/-
  The set that an item stands for: what resolve.lookup's function answers; what each makes of a list of items.
-/
import Derived.Test.YtchkcjaahjhbcaaVMap
namespace Go.Proofs.Ytchkcjaahjhbcaa
open Go.RowKit Go.Lib
set_option maxRecDepth 20000
set_option linter.unusedSimpArgs false
set_option linter.unusedVariables false

theorem V.lower {w : World} {B B' : Nat} {e : TypeId} {c : Nat} {v : Value} {n : Nat} {xs : List Value} (h : w.ownsRow B e c v n xs) (hB : B' ≤ B) : w.ownsRow B' e c v n xs := by
  obtain ⟨h1, h2⟩ := h
  refine ⟨h1, ?_⟩
  rcases h2 with h2 | ⟨g, cap, cur, k1, k2, k3⟩
  · exact Or.inl h2
  · exact Or.inr ⟨g, cap, cur, k1, Nat.le_trans hB k2, k3⟩
/-- the set that an item stands for -/
def V.setOf (g : ByteArray → List S.Sp) (x : R.Item) : List S.Sp := if x.kind = 2 then x.set else if x.kind = 3 then g x.name else [(x.rune, x.rune)]
/-- names and their sets, in memory: bm: the box that holds the map -/
def V.Vars (w : World) (bm : Nat) (g : ByteArray → List S.Sp) : Prop :=
  ∃ B n f, w.cell? ⟨bm, 0, none⟩ = some (.map (some B)) ∧ V.MapIs w B n f ∧ ∀ s : ByteArray, S.Rd w ((f s).getD (.slice none 0 0)) (g s) ∧ (g s).length ≤ 17592186044160
theorem V.Vars.below {w w' : World} {bm : Nat} {g : ByteArray → List S.Sp} (h : V.Vars w bm g) (hb : Below w.heap.size w w') : V.Vars w' bm g := by
  obtain ⟨B, n, f, h1, h2, h3⟩ := h
  refine ⟨B, n, f, ?_, h2.below hb h2.lt, fun s => ⟨(h3 s).1.below hb (Nat.le_refl _), (h3 s).2⟩⟩
  rw [hb.cell (p := ⟨bm, 0, none⟩) (L.block_lt h1)]; exact h1

set_option maxHeartbeats 2000000 in
theorem lookf_any (w : World) (x : R.Item) (so : Option Addr) (sc bm : Nat) (g : ByteArray → List S.Sp) (HV : V.Vars w bm g) (RS : S.Rd w (.slice so x.set.length sc) x.set) (hl : x.kind = 2 → x.set.length ≤ 17592186044160) (hn : x.name.size ≤ 140737488355328) :
    Calls Try.prog 77 #[.agg #[.int .i64 x.kind, .int .i32 x.rune, .slice so x.set.length sc, .string x.name], .pointer (some ⟨bm, 0, none⟩)] w
      fun e w' => ∃ v', e = .returned v' ∧ w'.ownsRow w.heap.size 71 2 v' (V.setOf g x).length (S.cellsOf (V.setOf g x)) ∧ Below w.heap.size w w' := by
  obtain ⟨B, n, f, hm, hM, hg⟩ := HV
  obtain ⟨xk, xr, xs, xn⟩ := x
  simp only at RS hl hn ⊢
  have bA : Below w.heap.size w (w.alloc (.cells #[.int .i64 xk, .int .i32 xr, .slice so xs.length sc, .string xn] 56)) := (Below.refl _ w).alloc (Nat.le_refl _) _
  have hlook := (hM.below bA hM.lt).look xn hn
  have hbm : bm < w.heap.size := L.block_lt hm
  have HC : Hid (∀ W : World, Below w.heap.size w W → ∀ v l, S.Rd w v l → l.length ≤ 17592186044160 → Calls Try.prog 55 #[v] W fun e w' => ∃ v', e = .returned v' ∧ w'.ownsRow w.heap.size 71 2 v' l.length (S.cellsOf l) ∧ Below w.heap.size w w') := fun W hW v l hv hl => by
    refine (vclone_any W v l (hv.below hW (Nat.le_refl _)) hl).mono ?_
    rintro e w' ⟨v', rfl, h1, h2⟩
    exact ⟨v', rfl, V.lower h1 hW.size, hW.trans (h2.mono hW.size)⟩
  have HG : Hid (S.Rd w ((f xn).getD (.slice none 0 0)) (g xn) ∧ (g xn).length ≤ 17592186044160) := hg xn
  have HRS : Hid (S.Rd w (.slice so xs.length sc) xs ∧ (xk = 2 → xs.length ≤ 17592186044160)) := ⟨RS, hl⟩
  have HbA : Hid _ := bA
  clear hg hM RS bA hl
  generalize (f xn).getD (.slice none 0 0) = gv at hlook HG
  by_cases h2 : xk = 2
  · subst h2
    clear hlook
    go_enter Try.func77, Try.ntmps77
    go_wp2_with fail
    refine (HC.out _ HbA.out _ _ HRS.out.1 (HRS.out.2 trivial)).mono ?_
    rintro e w1 ⟨v', rfl, o1, b1⟩
    have HO : Hid _ := And.intro o1 b1
    clear o1 b1
    go_wp2
    go_ret
    exact ⟨v', rfl, HO.out.1, HO.out.2⟩
  · by_cases h3 : xk = 3
    · subst h3
      go_enter Try.func77, Try.ntmps77
      go_wp2_with fail
      refine (HC.out _ HbA.out _ _ HG.out.1 HG.out.2).mono ?_
      rintro e w1 ⟨v', rfl, o1, b1⟩
      have HO : Hid _ := And.intro o1 b1
      clear o1 b1
      go_wp2
      go_ret
      exact ⟨v', rfl, HO.out.1, HO.out.2⟩
    · clear hlook
      have e1 : V.setOf g ⟨xk, xr, xs, xn⟩ = [(xr, xr)] := by simp [V.setOf, h2, h3]
      rw [e1]
      clear e1
      go_enter Try.func77, Try.ntmps77
      go_wp2
      go_ret
      refine ⟨_, rfl, ?_, ?_⟩
      · refine ⟨rfl, Or.inr ⟨w.heap.size + 1, 1, #[.int .i32 xr, .int .i32 xr], rfl, by omega, ?_, Nat.le_refl _, by unfold maxLen; omega, rfl, rfl⟩⟩
        have h := heap_alloc_new (w.alloc (.cells #[.int .i64 xk, .int .i32 xr, .slice so xs.length sc, .string xn] 56)) (.cells #[.int .i32 xr, .int .i32 xr] 71)
        simpa using h
      · exact ((Below.refl _ w).alloc (Nat.le_refl _) _).alloc (by simp) _

end Go.Proofs.Ytchkcjaahjhbcaa
