/-
  A stretch of runes turned round.
-/
import Derived.Test.YtlmmjefplbcapaaGreatZLess
import Derived.BigRegion
import Derived.Test.YtlmmjefplbcapaaGreatZPt
import Derived.Sort.AssemblyPlain
namespace Go.Proofs.YtlmmjefplbcapaaGreat
open Go.RowKit Go.Sort
set_option maxRecDepth 20000
set_option linter.unusedSimpArgs false
set_option linter.unusedVariables false

set_option maxHeartbeats 4000000 in
theorem zrev_any (w : World) (blk off cap a b : Nat) (d : Array Int) (h0 : Holds Z.en w blk off d) (hab : a < b) (hb : b ≤ d.size) (hsz : d.size < 4611686018427387904) :
    Calls Tryz.prog 91 #[.slice (some ⟨blk, off, none⟩) d.size cap, .int .i64 a, .int .i64 b] w fun e w' => e = .returned (.tuple #[]) ∧ Z.At w blk off d.size (reverseRange d a b) w' := by
  have H0 : Hid (Holds Z.en w blk off d) := h0
  have HS : Hid (Z.At w blk off d.size d w) := Z.At.start h0
  clear h0
  go_enter Tryz.func91, Tryz.ntmps91
  go_wp2
  go_loopw [6, 7] (fun vi vj wr => ∃ (i j : Nat) (e : Array Int), vi = .int .i64 i ∧ vj = .int .i64 j ∧ a ≤ i ∧ i ≤ j + 1 ∧ j < b ∧ Hid (Z.At w blk off d.size e wr ∧ reverseLoop i j e = reverseLoop a (b - 1) d)) (fun vi _ _ => b - (RowKit.intOf vi).toNat)
  case atStart => exact ⟨a, b - 1, d, rfl, by congr 1; omega, Nat.le_refl _, by omega, by omega, HS.out, rfl⟩
  case round =>
    obtain ⟨i, j, e, rfl, rfl, hai, hij, hjb, HE⟩ := hrel
    clear HS
    by_cases hlt : i < j
    · have ci := HE.out.1.cell H0.out rfl (j := i) (by omega)
      have cj := HE.out.1.cell H0.out rfl (j := j) (by omega)
      have fi := HE.out.1.free H0.out rfl (j := i) (by omega)
      have fj := HE.out.1.free H0.out rfl (j := j) (by omega)
      have hsw := HE.out.1.swap (i := i) (j := j) (by omega) (by omega) 1
      generalize hx : e[i]! = x at ci hsw
      generalize hy : e[j]! = y at cj hsw
      have HW : Hid (Z.At w blk off d.size (swp e i j) ((((wr.drewN 1)).setCell ⟨blk, off + i, none⟩ (.int .i32 y)).setCell ⟨blk, off + j, none⟩ (.int .i32 x))) := hsw
      clear hsw hx hy H0
      go_wp2_with fail
      go_region
      go_wp2
      go_roundw
      case rel =>
        refine ⟨i + 1, j - 1, swp e i j, by go_num, by congr 1; omega, by omega, by omega, by omega, HW.out, ?_⟩
        have h := HE.out.2
        rw [reverseLoop, if_pos hlt] at h
        exact h
      case measure => simp [RowKit.intOf]; omega
    · go_wp2
      go_end0
      refine ⟨rfl, ?_⟩
      have h := HE.out.2
      rw [reverseLoop, if_neg hlt] at h
      unfold reverseRange
      rw [← h]
      exact HE.out.1

end Go.Proofs.YtlmmjefplbcapaaGreat

/-
  Runes that are sorted: what each step of a round leaves to be sorted.
-/
namespace Go.Proofs.YtlmmjefplbcapaaGreat
open Go.RowKit Go.Sort
set_option maxRecDepth 20000
set_option linter.unusedSimpArgs false
set_option linter.unusedVariables false

namespace Z
/-- R is d sorted from a to b, and the row holds it -/
def Fin (w : World) (blk off a b : Nat) (d R : Array Int) (wr : World) : Prop := Go.Sort.At en w blk off R wr ∧ PermIn a b d R ∧ SortedIn ltInt a b R
/-- the row holds e; what is sorted of it from a' to b' is d sorted from a to b -/
def Pd (w : World) (blk off a b : Nat) (d : Array Int) (a' b' : Nat) (e : Array Int) (wr : World) : Prop :=
  Go.Sort.At en w blk off e wr ∧ e.size = d.size ∧ Sort.Below ltInt a' b' e ∧ ∀ R, PermIn a' b' e R → SortedIn ltInt a' b' R → PermIn a b d R ∧ SortedIn ltInt a b R
theorem Pd.start {w : World} {blk off a b : Nat} {d : Array Int} (h : Holds en w blk off d) (hB : Sort.Below ltInt a b d) : Pd w blk off a b d a b d w := ⟨Sort.At.refl h, rfl, hB, fun _ h1 h2 => ⟨h1, h2⟩⟩
theorem Pd.perm {w wr w2 : World} {blk off a b a' b' : Nat} {d e e2 : Array Int} (h : Pd w blk off a b d a' b' e wr) (hb : b' ≤ d.size) (hp : PermIn a' b' e e2) (h2 : Go.Sort.At en w blk off e2 w2) : Pd w blk off a b d a' b' e2 w2 :=
  ⟨h2, hp.1.trans h.2.1, h.2.2.1.perm (by have := h.2.1; omega) hp, fun R h3 h4 => h.2.2.2 R (permIn_trans _ _ _ _ _ hp h3) h4⟩
theorem Pd.fin {w wr w2 : World} {blk off a b a' b' : Nat} {d e R : Array Int} (h : Pd w blk off a b d a' b' e wr) (hp : PermIn a' b' e R) (hs : SortedIn ltInt a' b' R) (h2 : Go.Sort.At en w blk off R w2) : Fin w blk off a b d R w2 :=
  ⟨h2, (h.2.2.2 R hp hs).1, (h.2.2.2 R hp hs).2⟩
theorem Pd.holds {w wr : World} {blk off a b a' b' : Nat} {d e : Array Int} (h : Pd w blk off a b d a' b' e wr) (h0 : Holds en w blk off d) (hbl : blk < w.heap.size) : Holds en wr blk off e := (h.1.holds h0 h.2.1 hbl).1
theorem Pd.to {w wr w2 : World} {blk off a b a' b' : Nat} {d e e2 : Array Int} (h : Pd w blk off a b d a' b' e wr) (hbl : blk < w.heap.size) (h2 : Z.At wr blk off e.size e2 w2) : Go.Sort.At en w blk off e2 w2 := h.1.step hbl h2.1 h2.2
end Z

theorem zins_pd (w wr : World) (blk off cap a b a' b' : Nat) (d e : Array Int) (h0 : Holds Z.en w blk off d) (hbl : blk < w.heap.size) (h : Z.Pd w blk off a b d a' b' e wr) (hab : a' ≤ b') (hb : b' ≤ d.size) (hsz : d.size < 1152921504606846976) :
    Calls Tryz.prog 87 #[.slice (some ⟨blk, off, none⟩) d.size cap, .int .i64 a', .int .i64 b'] wr fun x w' => x = .returned (.tuple #[]) ∧ ∃ R, Z.Fin w blk off a b d R w' := by
  have hs := h.2.1
  have hh := zins_any wr blk off cap a' b' e (h.holds h0 hbl) hab (by omega) (by omega)
  rw [hs] at hh
  refine hh.mono fun x w' ⟨h1, h2⟩ => ?_
  rw [← hs] at h2
  obtain ⟨p1, p2⟩ := insertionSort_holds (lt := ltInt) swo_ltInt e a' b' hab (by omega)
  exact ⟨h1, _, h.fin p1 p2 (h.to hbl h2)⟩

theorem zheap_pd (w wr : World) (blk off cap a b a' b' : Nat) (d e : Array Int) (h0 : Holds Z.en w blk off d) (hbl : blk < w.heap.size) (h : Z.Pd w blk off a b d a' b' e wr) (hab : a' < b') (hb : b' ≤ d.size) (hsz : d.size < 1152921504606846976) :
    Calls Tryz.prog 88 #[.slice (some ⟨blk, off, none⟩) d.size cap, .int .i64 a', .int .i64 b'] wr fun x w' => x = .returned (.tuple #[]) ∧ ∃ R, Z.Fin w blk off a b d R w' := by
  have hs := h.2.1
  have hh := zheap_any wr blk off cap a' b' e (h.holds h0 hbl) hab (by omega) (by omega)
  rw [hs] at hh
  refine hh.mono fun x w' ⟨h1, h2⟩ => ?_
  rw [← hs] at h2
  obtain ⟨p1, p2⟩ := heapSort_holds (lt := ltInt) swo_ltInt e a' b' (by omega) (by omega)
  exact ⟨h1, _, h.fin p1 p2 (h.to hbl h2)⟩

theorem zbreak_pd (w wr : World) (blk off cap a b a' b' : Nat) (d e : Array Int) (h0 : Holds Z.en w blk off d) (hbl : blk < w.heap.size) (h : Z.Pd w blk off a b d a' b' e wr) (hab : a' + 8 ≤ b') (hb : b' ≤ d.size) (hsz : d.size < 1152921504606846976) :
    Calls Tryz.prog 89 #[.slice (some ⟨blk, off, none⟩) d.size cap, .int .i64 a', .int .i64 b'] wr fun x w' => x = .returned (.tuple #[]) ∧ ∃ e2, Z.Pd w blk off a b d a' b' e2 w' := by
  have hs := h.2.1
  obtain ⟨n, rfl⟩ : ∃ n, b' = a' + n := ⟨b' - a', by omega⟩
  have hh := zbreak_any wr blk off cap a' n e (h.holds h0 hbl) (by omega) (by omega) (by omega)
  rw [hs] at hh
  refine hh.mono fun x w' ⟨h1, d', h2, h3⟩ => ⟨h1, d', h.perm hb h2 ?_⟩
  exact h.1.stepG hbl h2.1 h3

theorem zpivot_pd (w wr : World) (blk off cap a b a' b' : Nat) (d e : Array Int) (h0 : Holds Z.en w blk off d) (hbl : blk < w.heap.size) (h : Z.Pd w blk off a b d a' b' e wr) (hab : a' + 8 ≤ b') (hb : b' ≤ d.size) (hsz : d.size < 1152921504606846976) :
    Calls Tryz.prog 90 #[.slice (some ⟨blk, off, none⟩) d.size cap, .int .i64 a', .int .i64 b'] wr fun x w' => ∃ p c : Nat, a' ≤ p ∧ p < b' ∧ c ≤ 2 ∧ x = .returned (.tuple #[.int .i64 p, .int .i64 c]) ∧ Z.Pd w blk off a b d a' b' e w' := by
  have hs := h.2.1
  obtain ⟨n, rfl⟩ : ∃ n, b' = a' + n := ⟨b' - a', by omega⟩
  have hh := zpivot_any wr blk off cap a' n e (h.holds h0 hbl) (by omega) (by omega) (by omega)
  rw [hs] at hh
  refine hh.mono fun x w' ⟨p, c, h1, h2, h3, h4, h5⟩ => ⟨p, c, h1, h2, h3, h4, ?_⟩
  exact ⟨h.1.same h0 hs hbl h5, h.2⟩

theorem zrev_pd (w wr : World) (blk off cap a b a' b' : Nat) (d e : Array Int) (h0 : Holds Z.en w blk off d) (hbl : blk < w.heap.size) (h : Z.Pd w blk off a b d a' b' e wr) (hab : a' < b') (hb : b' ≤ d.size) (hsz : d.size < 1152921504606846976) :
    Calls Tryz.prog 91 #[.slice (some ⟨blk, off, none⟩) d.size cap, .int .i64 a', .int .i64 b'] wr fun x w' => x = .returned (.tuple #[]) ∧ ∃ e2, Z.Pd w blk off a b d a' b' e2 w' := by
  have hs := h.2.1
  have hh := zrev_any wr blk off cap a' b' e (h.holds h0 hbl) hab (by omega) (by omega)
  rw [hs] at hh
  refine hh.mono fun x w' ⟨h1, h2⟩ => ?_
  rw [← hs] at h2
  exact ⟨h1, _, h.perm hb (reverseRange_holds e a' b' (by omega) (by omega)) (h.to hbl h2)⟩

theorem zpartial_pd (w wr : World) (blk off cap a b a' b' : Nat) (d e : Array Int) (h0 : Holds Z.en w blk off d) (hbl : blk < w.heap.size) (h : Z.Pd w blk off a b d a' b' e wr) (hab : a' < b') (hb : b' ≤ d.size) (hsz : d.size < 1152921504606846976) :
    Calls Tryz.prog 92 #[.slice (some ⟨blk, off, none⟩) d.size cap, .int .i64 a', .int .i64 b'] wr fun x w' => ∃ (β : Bool) (e2 : Array Int), x = .returned (.bool β) ∧ Z.Pd w blk off a b d a' b' e2 w' ∧ (β = true → Z.Fin w blk off a b d e2 w') := by
  have hs := h.2.1
  have hh := zpartial_any wr blk off cap a' b' e (h.holds h0 hbl) hab (by omega) (by omega)
  rw [hs] at hh
  refine hh.mono fun x w' ⟨h1, h2⟩ => ?_
  rw [← hs] at h2
  obtain ⟨p1, p2⟩ := partialInsertionSort_holds (lt := ltInt) swo_ltInt e a' b' hab (by omega) h.2.2.1
  exact ⟨_, _, h1, h.perm hb p1 (h.to hbl h2), fun hβ => h.fin p1 (p2 hβ) (h.to hbl h2)⟩

theorem zpeq_pd (w wr : World) (blk off cap a b a' b' p : Nat) (d e : Array Int) (h0 : Holds Z.en w blk off d) (hbl : blk < w.heap.size) (h : Z.Pd w blk off a b d a' b' e wr) (hp1 : a' ≤ p) (hp2 : p < b') (hb : b' ≤ d.size) (hsz : d.size < 1152921504606846976) (ha : 0 < a') (hl : ltInt e[a' - 1]! e[p]! = false) :
    Calls Tryz.prog 94 #[.slice (some ⟨blk, off, none⟩) d.size cap, .int .i64 a', .int .i64 b', .int .i64 p] wr fun x w' => ∃ (m : Nat) (e2 : Array Int), a' < m ∧ m ≤ b' ∧ x = .returned (.int .i64 m) ∧ Z.Pd w blk off a b d m b' e2 w' := by
  have hs := h.2.1
  have hh := zpeq_any wr blk off cap a' b' p e (h.holds h0 hbl) hp1 hp2 (by omega) (by omega)
  rw [hs] at hh
  refine hh.mono fun x w' ⟨h1, h2⟩ => ?_
  rw [← hs] at h2
  obtain ⟨q1, q2, q3, q4, q5⟩ := round_eq (lt := ltInt) swo_ltInt (partitionEqual_holds ltInt) ha hp1 hp2 (by omega) h.2.2.1 hl (Prod.eta (partitionEqual ltInt e a' b' p)).symm
  exact ⟨_, _, q1, q2, h1, h.to hbl h2, q3.trans hs, q4, fun R r1 r2 => h.2.2.2 R (q5 R r1 r2).1 (q5 R r1 r2).2⟩

/-- a row parted at m: either side may be sorted first -/
def Z.Pt (w : World) (blk off a b : Nat) (d : Array Int) (a' b' m : Nat) (e : Array Int) (wr : World) : Prop :=
  Go.Sort.At Z.en w blk off e wr ∧ e.size = d.size ∧ Sort.Below ltInt a' m e ∧ Sort.Below ltInt (m + 1) b' e ∧
  (∀ (L : Array Int) (w' : World), Z.Fin wr blk off a' m e L w' → Z.Pd w blk off a b d (m + 1) b' L w') ∧
  (∀ (L : Array Int) (w' : World), Z.Fin wr blk off (m + 1) b' e L w' → Z.Pd w blk off a b d a' m L w')

theorem zpart_pd (w wr : World) (blk off cap a b a' b' p : Nat) (d e : Array Int) (h0 : Holds Z.en w blk off d) (hbl : blk < w.heap.size) (h : Z.Pd w blk off a b d a' b' e wr) (hp1 : a' ≤ p) (hp2 : p < b') (hb : b' ≤ d.size) (hsz : d.size < 1152921504606846976) :
    Calls Tryz.prog 95 #[.slice (some ⟨blk, off, none⟩) d.size cap, .int .i64 a', .int .i64 b', .int .i64 p] wr fun x w' => ∃ (m : Nat) (β : Bool) (e2 : Array Int), a' ≤ m ∧ m < b' ∧ x = .returned (.tuple #[.int .i64 m, .bool β]) ∧ Z.Pt w blk off a b d a' b' m e2 w' := by
  have hs := h.2.1
  have hh := zpart_any wr blk off cap a' b' p e (h.holds h0 hbl) hp1 hp2 (by omega) (by omega)
  rw [hs] at hh
  refine hh.mono fun x w' ⟨h1, h2⟩ => ?_
  rw [← hs] at h2
  obtain ⟨q1, q2, q3, q4, q5, q6, q7⟩ := round_part (lt := ltInt) swo_ltInt (partition_holds ltInt) hp1 hp2 (by omega) h.2.2.1 (show partition ltInt e a' b' p = ((partition ltInt e a' b' p).1, (partition ltInt e a' b' p).2.1, (partition ltInt e a' b' p).2.2) from rfl)
  have h3 := h.to hbl h2
  refine ⟨_, _, _, q1, q2, h1, h3, q3.trans hs, q4, q5, fun L w2 hf => ?_, fun L w2 hf => ?_⟩
  · obtain ⟨r1, r2⟩ := q6 L hf.2.1 hf.2.2
    exact ⟨h3.stepG hbl hf.2.1.1 hf.1, hf.2.1.1.trans (q3.trans hs), r1, fun R s1 s2 => h.2.2.2 R (r2 R s1 s2).1 (r2 R s1 s2).2⟩
  · obtain ⟨r1, r2⟩ := q7 L hf.2.1 hf.2.2
    exact ⟨h3.stepG hbl hf.2.1.1 hf.1, hf.2.1.1.trans (q3.trans hs), r1, fun R s1 s2 => h.2.2.2 R (r2 R s1 s2).1 (r2 R s1 s2).2⟩

end Go.Proofs.YtlmmjefplbcapaaGreat
