/-
  Files of rules: the bytes of what is written are the bytes of its runes, which are all right.
-/
import Derived.Test.YtajbcgobfkaahaaGreatDoorRText
namespace Go.Proofs.YtajbcgobfkaahaaGreatDoor.R
open S (Sp)
open T (Out see skipW cut)

def BR (l : List Int) (b : List UInt8) : Prop := T.bytesR l = b ∧ T.rightL l
theorem BR.nil : BR [] [] := ⟨rfl, fun r hr => by cases hr⟩
theorem BR.app {l m : List Int} {b c : List UInt8} (h : BR l b) (h' : BR m c) : BR (l ++ m) (b ++ c) := ⟨by rw [T.bytesR_append, h.1, h'.1], T.rightL_app h.2 h'.2⟩
theorem BR.ite {p : Prop} [Decidable p] {l m : List Int} {b c : List UInt8} (h : BR l b) (h' : BR m c) : BR (if p then l else m) (if p then b else c) := by
  by_cases hp : p
  · rw [if_pos hp, if_pos hp]; exact h
  · rw [if_neg hp, if_neg hp]; exact h'
theorem wordy_right {r : Int} (h : wordy r = true) : 0 ≤ r ∧ r < 128 := by
  unfold wordy letter digit at h
  simp only [Bool.or_eq_true, Bool.and_eq_true, decide_eq_true_eq] at h
  omega
theorem BR.bytes {m : List UInt8} (h : ∀ b ∈ m, b.toNat < 128) : BR (m.map fun b => (b.toNat : Int)) m := by
  induction m with
  | nil => exact BR.nil
  | cons b m ih =>
    have hb := h b List.mem_cons_self
    have i := ih fun c hc => h c (List.mem_cons_of_mem _ hc)
    refine ⟨?_, fun r hr => ?_⟩
    · rw [List.map_cons, T.bytesR_cons, i.1, T.enc_ascii hb]; rfl
    · rcases List.mem_cons.1 hr with rfl | hr
      · unfold M.right; simp; omega
      · exact i.2 r hr
theorem BR.name {n : ByteArray} (h : ∀ r ∈ nameR n, wordy r = true) : BR (nameR n) n.data.toList := by
  refine BR.bytes fun b hb => ?_
  have := wordy_right (h (b.toNat : Int) (List.mem_map_of_mem hb))
  omega
theorem BR.set {s : List Sp} (h : S.wrongE s = 0) : BR (T.prtR s) (setB s) := by
  unfold setB
  rw [if_pos h]
  exact T.prt_bytes s
theorem BR.c36 {l : List Int} {b : List UInt8} (h : BR l b) : BR (36 :: l) (36 :: b) := BR.app (l := [36]) (b := [36]) ⟨by decide, by unfold T.rightL; decide⟩ h
theorem BR.item {x : Item} (h : itemE x = 0) : BR (itemR x) (itemB x) := by
  unfold itemR itemB
  rcases itemE_cases h with ⟨hk, _⟩ | ⟨hk, hw⟩ | ⟨hk, hn⟩
  · rw [if_neg (by omega), if_neg (by omega), if_neg (by omega), if_neg (by omega)]
    exact T.quo_bytes _
  · rw [if_pos hk, if_pos hk]; exact BR.set hw
  · rw [if_neg (by omega), if_pos hk, if_neg (by omega), if_pos hk]
    exact BR.c36 (BR.name (named_runes hn).1)
theorem BR.bar : BR barR bar := ⟨by decide, by unfold T.rightL; decide⟩
theorem BR.sp : BR [32] [32] := ⟨by decide, by unfold T.rightL; decide⟩
theorem BR.items : ∀ {xs : List Item} (c : Int), (∀ x ∈ xs, itemE x = 0) → BR (itemsR xs c) (itemsB xs c) := by
  intro xs
  induction xs with
  | nil => intro c _; exact BR.ite BR.bar BR.nil
  | cons x xs ih =>
    intro c h
    exact ((BR.ite BR.bar BR.nil).app ((BR.item (h x List.mem_cons_self)).app BR.sp)).app (ih _ fun y hy => h y (List.mem_cons_of_mem _ hy))
theorem BR.two {a b : Int} {x y : UInt8} (h : BR [a, b] [x, y]) {p : Prop} [Decidable p] : BR (if p then [a, b] else []) (if p then [x, y] else []) := BR.ite h BR.nil
theorem BR.side {s : Side} {m : Bool} (h : sideE s m = 0) : BR (sideR s) (sideB s) := by
  obtain ⟨z1, z2, z3, _, _⟩ := sideE_zero h
  obtain ⟨_, a1⟩ := itemsE_zero.1 z1
  obtain ⟨_, a2⟩ := itemsE_zero.1 z2
  obtain ⟨_, a3⟩ := itemsE_zero.1 z3
  have k1 : BR [94, 32] [94, 32] := ⟨by decide, by unfold T.rightL; decide⟩
  have k2 : BR [123, 32] [123, 32] := ⟨by decide, by unfold T.rightL; decide⟩
  have k3 : BR [125, 32] [125, 32] := ⟨by decide, by unfold T.rightL; decide⟩
  have k4 : BR [36, 32] [36, 32] := ⟨by decide, by unfold T.rightL; decide⟩
  exact ((((((BR.ite k1 BR.nil).app (BR.items _ a1)).app (BR.ite k2 BR.nil)).app (BR.items _ a2)).app (BR.ite k3 BR.nil)).app (BR.items _ a3)).app (BR.ite k4 BR.nil)
theorem BR.arrow (d : Int) : BR (arrowR d) (arrowB d) :=
  BR.ite ⟨by decide, by unfold T.rightL; decide⟩ (BR.ite ⟨by decide, by unfold T.rightL; decide⟩ ⟨by decide, by unfold T.rightL; decide⟩)
theorem BR.words {p : Part} (h : partE p = 0) : BR (wordsR p) (wordsB p) := by
  have k1 : BR [61, 32] [61, 32] := ⟨by decide, by unfold T.rightL; decide⟩
  have k2 : BR [58, 58, 32] [58, 58, 32] := ⟨by decide, by unfold T.rightL; decide⟩
  unfold wordsR wordsB
  rcases partE_cases h with ⟨hk, hn, hw⟩ | ⟨hk, hw⟩ | ⟨hk, hp⟩ | ⟨hk, hr⟩
  · rw [if_pos hk, if_pos hk]
    exact (((BR.c36 (BR.name (named_runes hn).1)).app BR.sp).app k1).app ((BR.set hw).app BR.sp)
  · rw [if_neg (by omega), if_pos hk, if_neg (by omega), if_pos hk]
    exact k2.app ((BR.set hw).app BR.sp)
  · rw [if_neg (by omega), if_neg (by omega), if_pos hk, if_neg (by omega), if_neg (by omega), if_pos hk]
    exact k2.app ((BR.name (passes_named hp).1).app BR.sp)
  · rw [if_neg (by omega), if_neg (by omega), if_neg (by omega), if_pos hk, if_neg (by omega), if_neg (by omega), if_neg (by omega), if_pos hk]
    obtain ⟨_, hl, hr2, _⟩ := ruleE_zero hr
    exact ((BR.side hl).app ((BR.arrow _).app BR.sp)).app (BR.side hr2)
theorem BR.part {p : Part} (h : partE p = 0) : BR (partR p) (partB p) := (BR.words h).app ⟨by decide, by unfold T.rightL; decide⟩
theorem BR.print {l : List Part} (h : ∀ p ∈ l, partE p = 0) : BR (printR l) (printB l) := by
  induction l with
  | nil => exact BR.nil
  | cons p l ih =>
    unfold printR printB
    rw [List.flatMap_cons, List.flatMap_cons]
    exact (BR.part (h p List.mem_cons_self)).app (ih fun q hq => h q (List.mem_cons_of_mem _ hq))
/-- the runes of what is printed -/
theorem rn_print {l : List Part} (h : ∀ p ∈ l, partE p = 0) : M.rn ⟨(printB l).toArray⟩ = printR l := by
  have b := BR.print h
  rw [← b.1]
  exact T.rn_bytes b.2

end Go.Proofs.YtajbcgobfkaahaaGreatDoor.R
