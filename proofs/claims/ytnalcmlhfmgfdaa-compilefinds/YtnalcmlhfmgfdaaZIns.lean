/-
  Runes that are sorted: by putting one after the other into its place; a stretch turned round.
-/
import Derived.Test.YtnalcmlhfmgfdaaZHeap2
import Derived.BigGuard
import Derived.BigCall
import Derived.CellFam
import Derived.Deep.Draws
import Derived.Deep.QuietTactic
import Derived.BigQuiet
namespace Go.Proofs.Ytnalcmlhfmgfdaa
open Go.RowKit Go.Sort
set_option maxRecDepth 20000
set_option linter.unusedSimpArgs false
set_option linter.unusedVariables false

set_option maxHeartbeats 4000000 in
theorem zins_any (w : World) (blk off cap a b : Nat) (d : Array Int) (h0 : Holds Z.en w blk off d) (hab : a ≤ b) (hb : b ≤ d.size) (hsz : d.size < 4611686018427387904) :
    Calls Try.prog 73 #[.slice (some ⟨blk, off, none⟩) d.size cap, .int .i64 a, .int .i64 b] w fun e w' => e = .returned (.tuple #[]) ∧ Z.At w blk off d.size (insertionSort ltInt d a b) w' := by
  have H0 : Hid (Holds Z.en w blk off d) := h0
  have HS : Hid (Z.At w blk off d.size d w) := Z.At.start h0
  clear h0
  go_enter Try.func73, Try.ntmps73
  go_wp2
  go_loopw [6] (fun vi wr => ∃ (i : Nat) (e : Array Int), vi = .int .i64 i ∧ a < i ∧ i ≤ b + 1 ∧ Hid (Z.At w blk off d.size e wr ∧ insOuter ltInt a b i e = insOuter ltInt a b (a + 1) d)) (fun vi _ => b + 1 - (RowKit.intOf vi).toNat)
  case atStart => exact ⟨a + 1, d, by go_num, by omega, by omega, HS.out, rfl⟩
  case round =>
    obtain ⟨i, e, rfl, hai, hib, HE⟩ := hrel
    clear HS
    by_cases hlt : i < b
    · go_wp2
      go_loopw [7] (fun vj w2 => ∃ (j : Nat) (f : Array Int), vj = .int .i64 j ∧ a ≤ j ∧ j ≤ i ∧ Hid (Z.At w blk off d.size f w2 ∧ insInner ltInt a j f = insInner ltInt a i e)) (fun vj _ => (RowKit.intOf vj).toNat)
      case atStart => exact ⟨i, e, rfl, by omega, Nat.le_refl _, HE.out.1, rfl⟩
      case round =>
        obtain ⟨j, f, rfl, haj, hji, HF⟩ := hrel
        obtain ⟨G, hG⟩ : ∃ G : Nat → Int, ∀ t, G t = f[t]! := ⟨fun t => f[t]!, fun _ => rfl⟩
        have hcw : ∀ t, t < d.size → wr.cell? ⟨blk, off + t, none⟩ = some (.int .i32 (G t)) := fun t ht => by rw [hG]; exact HF.out.1.cell H0.out rfl ht
        have hfw : ∀ t, t < d.size → wr.frozen? ⟨blk, off + t, none⟩ = false := fun t ht => HF.out.1.free H0.out rfl ht
        have HG : Hid (∀ t, G t = f[t]!) := hG
        have HOut : Hid ((j ≤ a ∨ ltInt f[j]! f[j - 1]! = false) → ∀ q, Z.At w blk off d.size f (wr.drewN q) ∧ insOuter ltInt a b (i + 1) f = insOuter ltInt a b (a + 1) d) := fun hs q => ⟨HF.out.1.drew q, by rw [← HE.out.2, insOuter_go _ _ _ _ _ hlt, ← HF.out.2, insInner_stop _ _ _ _ hs]⟩
        clear hG
        go_wp2
        by_cases hja : a < j
        · go_quiet (first | (go_at_call 79; refine Calls.quiet_of_same (zless_any _ _ _)))
          go_wp2
          · have hl : ltInt (G j) (G (j - 1)) = true := by assumption
            go_region
            all_goals go_wp2
            go_roundw
            case rel =>
              refine ⟨j - 1, swp f j (j - 1), by congr 1; omega, by omega, by omega, ?_, ?_⟩
              · have := HF.out.1.swap (i := j) (j := j - 1) (by omega) (by omega) (nq + 1)
                rw [HG.out, HG.out]
                exact this
              · rw [← HF.out.2, insInner_go ltInt a j f hja (by rw [← HG.out, ← HG.out]; exact hl)]
            case measure => simp [RowKit.intOf]; omega
          · have hl : ltInt (G j) (G (j - 1)) = false := by assumption
            go_roundw
            case rel => exact ⟨i + 1, f, by go_num, by omega, by omega, HOut.out (.inr (by rw [← HG.out, ← HG.out]; exact hl)) nq⟩
            case measure => simp [RowKit.intOf]; omega
        · go_quiet (first | (go_at_call 79; refine Calls.quiet_of_same (zless_any _ _ _)))
          go_wp2
          go_roundw
          case rel => exact ⟨i + 1, f, by go_num, by omega, by omega, HOut.out (.inl (by omega)) nq⟩
          case measure => simp [RowKit.intOf]; omega
    · go_wp2
      go_end0
      exact ⟨rfl, by unfold insertionSort; rw [← HE.out.2, insOuter_stop _ _ _ _ _ hlt]; exact HE.out.1⟩

end Go.Proofs.Ytnalcmlhfmgfdaa
