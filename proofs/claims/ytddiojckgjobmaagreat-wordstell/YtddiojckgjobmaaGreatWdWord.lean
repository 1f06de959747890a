/-
  words.word: the piece that begins here.
-/
import Derived.Test.YtddiojckgjobmaaGreatWdMath
import Derived.Test.YtddiojckgjobmaaGreatSWrong
import Derived.Test.YtddiojckgjobmaaGreatYHead
namespace Go.Proofs.YtddiojckgjobmaaGreat
open Go.RowKit Go.Lib
set_option maxRecDepth 20000
set_option linter.unusedSimpArgs false
set_option linter.unusedVariables false

theorem Tryz.infoWord : (Tryz.prog.info? 32).map (fun i => (i.zero, i.size, i.bytes)) = some (some (.agg #[.int .i64 0, .int .i64 0, .bool false]), 3, 24) := by kernel_rfl

namespace Wd
/-- a rune of the text, where nothing below was changed -/
theorem at_text {w : World} {xo : Option Addr} {xc : Nat} {t : List Int} (Rt : L.Rd w (.slice xo t.length xc) .i32 t) {i : Nat} (hi : i < t.length) : ∃ bk off, xo = some ⟨bk, off, none⟩ ∧ bk < w.heap.size ∧ ∀ X, Below w.heap.size w X → ∀ j, j < t.length → X.cell? ⟨bk, off + j, none⟩ = some (.int .i32 (t.getD j 0)) := by
  obtain ⟨a, c, he, _, hc⟩ := Rt
  cases he
  obtain ⟨bk, off, rfl, h⟩ := hc (by intro h; subst h; simp at hi)
  have hx : ∀ j, j < t.length → w.cell? ⟨bk, off + j, none⟩ = some (.int .i32 (t.getD j 0)) := fun j hj => by
    have := h j t[j] (by simp [hj])
    simpa [List.getD, hj] using this
  have hb := L.block_lt (hx i hi)
  exact ⟨bk, off, rfl, hb, fun X hX j hj => (hX.cell (p := ⟨bk, _, none⟩) hb).trans (hx j hj)⟩
/-- three cells of a box -/
theorem box3 {w : World} {g : Nat} {a b c : Value} {ty : TypeId} (h : w.heap[g]? = some (.cells #[a, b, c] ty)) : w.cell? ⟨g, 0, none⟩ = some a ∧ w.cell? ⟨g, 1, none⟩ = some b ∧ w.cell? ⟨g, 2, none⟩ = some c ∧ w.frozen? ⟨g, 0, none⟩ = false ∧ w.frozen? ⟨g, 1, none⟩ = false ∧ w.frozen? ⟨g, 2, none⟩ = false :=
  ⟨K.zaa (i := 0) h rfl, K.zaa (i := 1) h rfl, K.zaa (i := 2) h rfl, frozen_of_row w g 0 _ _ h, frozen_of_row w g 1 _ _ h, frozen_of_row w g 2 _ _ h⟩
end Wd

set_option maxHeartbeats 4000000 in
theorem word_any (w : World) (v : Value) (A : List S.Sp) (R : S.Rd w v A) (N : S.Nf 0 A) (hl : A.length ≤ 200) (xo : Option Addr) (xc : Nat) (t : List Int) (Rt : L.Rd w (.slice xo t.length xc) .i32 t) (ht : t.length ≤ 4000) (k : Nat) (hk : k < t.length) :
    Calls Tryz.prog 13 #[v, .slice xo t.length xc, .int .i64 k] w fun e w' => ∃ (to : Nat) (b : Bool), e = .returned (.agg #[.int .i64 k, .int .i64 to, .bool b]) ∧ Wd.rest (S.memb A) t k = (k, to, b) :: Wd.rest (S.memb A) t to ∧ k < to ∧ to ≤ t.length ∧ Below w.heap.size w w' := by
  have HH : Hid (∀ X r, Below w.heap.size w X → Calls Tryz.prog 27 #[v, .int .i32 r] X fun e w' => e = .returned (.bool (S.memb A r)) ∧ Below X.heap.size X w') := fun X r hX => zd1 X v A r (R.below hX (Nat.le_refl _)) N hl
  obtain ⟨va, vc, rfl⟩ := R.len
  obtain ⟨bk, off, rfl, hbk, hcell⟩ := Wd.at_text Rt hk
  have HC : Hid (∀ X, Below w.heap.size w X → ∀ j, j < t.length → X.cell? ⟨bk, off + j, none⟩ = some (.int .i32 (t.getD j 0))) := hcell
  have hB0 : Below w.heap.size w (w.alloc (.cells #[.int .i64 0, .int .i64 0, .bool false] 32)) := (Below.refl _ w).alloc (Nat.le_refl _) _
  have hc0 := hcell _ hB0 k hk
  have H0 := HH.out _ (t.getD k 0) hB0
  have HR : Hid (Wd.rest (S.memb A) t k = Wd.go (S.memb A) k (k + 1) (S.memb A (t.getD k 0)) (t.drop (k + 1))) := if_pos hk
  generalize t.getD k 0 = x0 at *
  clear hcell hB0 R N Rt
  go_enter Tryz.func13, Tryz.ntmps13
  go_wp2_with fail
  go_at_call 27
  refine H0.mono ?_
  rintro e w1 ⟨rfl, b1⟩
  obtain ⟨hs1, B1, _⟩ := K.zao b1
  obtain ⟨b, hb⟩ : ∃ b, b = S.memb A x0 := ⟨_, rfl⟩
  rw [← hb] at HR
  rw [← hb]
  have HS1 : Hid (w1.heap[w.heap.size]? = some (.cells #[.int .i64 0, .int .i64 0, .bool false] 32)) := hs1
  have HB1 : Hid (Below w.heap.size w w1) := B1
  clear b1 H0 hc0 hs1 B1 hb
  go_wp2
  go_loopw [8] (fun v8 wr => ∃ i : Nat, k < i ∧ i ≤ t.length ∧ v8 = .int .i64 i ∧ Hid (Wd.rest (S.memb A) t k = Wd.go (S.memb A) k i b (t.drop i)) ∧ Hid (wr.heap[w.heap.size]? = some (.cells #[.int .i64 0, .int .i64 0, .bool false] 32)) ∧ Hid (Below w.heap.size w wr)) (fun v8 _ => t.length - (RowKit.intOf v8).toNat)
  case atStart => exact ⟨k + 1, by omega, by omega, by go_num, HR, HS1, HB1⟩
  case round =>
    obtain ⟨i, hki, hit, rfl, HI, HS, HB⟩ := hrel
    have fin : ∀ Y, Y.heap[w.heap.size]? = some (.cells #[.int .i64 0, .int .i64 0, .bool false] 32) → Below w.heap.size w Y → (i < t.length → S.memb A (t.getD i 0) ≠ b) → True := fun _ _ _ _ => trivial
    clear fin
    by_cases hi : i < t.length
    · have c1 := HC.out wr HB.out i hi
      have H1 := HH.out wr (t.getD i 0) HB.out
      have HX : Hid (∀ c, c = S.memb A (t.getD i 0) → if c = b then Wd.rest (S.memb A) t k = Wd.go (S.memb A) k (i + 1) b (t.drop (i + 1)) else Wd.rest (S.memb A) t k = (k, i, b) :: Wd.rest (S.memb A) t i) := fun c hc => by
        split
        · rename_i h; rw [HI.out, Wd.go_step hi (by rw [← hc, h])]
        · rename_i h; rw [HI.out, Wd.go_cut hit fun _ => by rw [← hc]; exact h]
      generalize t.getD i 0 = x1 at *
      go_wp2_with fail
      go_at_call 27
      refine H1.mono ?_
      rintro e w2 ⟨rfl, b2⟩
      have hX := HX.out _ rfl
      have HS2 : Hid (w2.heap[w.heap.size]? = some (.cells #[.int .i64 0, .int .i64 0, .bool false] 32)) := K.zab HS.out b2
      have HB2 : Hid (Below w.heap.size w w2) := HB.out.trans (b2.mono HB.out.size)
      generalize S.memb A x1 = c at *
      clear b2 H1 c1 HX
      by_cases hcb : c = b
      · subst hcb
        rw [if_pos rfl] at hX
        have HX : Hid (Wd.rest (S.memb A) t k = Wd.go (S.memb A) k (i + 1) c (t.drop (i + 1))) := hX
        clear hX
        go_wp2
        go_roundw
        case rel => exact ⟨i + 1, by omega, by omega, by go_num, HX, HS2, HB2⟩
        case measure => simp [RowKit.intOf]; omega
      · rw [if_neg hcb] at hX
        have HX : Hid (Wd.rest (S.memb A) t k = (k, i, b) :: Wd.rest (S.memb A) t i) := hX
        obtain ⟨y0, y1, y2, f0, f1, f2⟩ := Wd.box3 HS2.out
        clear hX
        have hbb : c = !b := by cases c <;> cases b <;> simp_all
        subst hbb
        go_wp2
        refine bodyPost_ret (v := .agg #[.int .i64 k, .int .i64 i, .bool b]) (by simp [results, Tryz.results13, go_sem, *]) rfl ?_
        exact ⟨i, b, rfl, HX.out, hki, hit, ((HB2.out.setCell (p := ⟨w.heap.size, 0, none⟩) (by simp) _).setCell (p := ⟨w.heap.size, 1, none⟩) (by simp) _).setCell (p := ⟨w.heap.size, 2, none⟩) (by simp) _⟩
    · have HX : Hid (Wd.rest (S.memb A) t k = (k, i, b) :: Wd.rest (S.memb A) t i) := by show _ = _; rw [HI.out, Wd.go_cut hit fun h => absurd h hi]
      obtain ⟨y0, y1, y2, f0, f1, f2⟩ := Wd.box3 HS.out
      go_wp2
      refine bodyPost_ret (v := .agg #[.int .i64 k, .int .i64 i, .bool b]) (by simp [results, Tryz.results13, go_sem, *]) rfl ?_
      exact ⟨i, b, rfl, HX.out, hki, hit, ((HB.out.setCell (p := ⟨w.heap.size, 0, none⟩) (by simp) _).setCell (p := ⟨w.heap.size, 1, none⟩) (by simp) _).setCell (p := ⟨w.heap.size, 2, none⟩) (by simp) _⟩

end Go.Proofs.YtddiojckgjobmaaGreat
