/-
  What puts a rune behind a list, taken apart: norm.parting's function.
-/
import Derived.Test.YtbclmmkphjknaaaNmMap
import Derived.Test.YtbclmmkphjknaaaNmFull
import Derived.Shelf.Abstract
namespace Go.Proofs.Ytbclmmkphjknaaa
open Go.RowKit Go.Maps Go.Shelf
set_option maxRecDepth 40000
set_option linter.unusedSimpArgs false
set_option linter.unusedVariables false

namespace Nm
def klI (r : Int) : Lit := .int .i32 r
def okI (r : Int) : Prop := -2147483648 ≤ r ∧ r ≤ 2147483647
def pv (p : Pr) : Value := .agg #[.int .i32 p.1, .int .i32 p.2.1, .int .i32 p.2.2]
def zP : Value := .agg #[.int .i32 0, .int .i32 0, .int .i32 0]
theorem keyedI : Keyed Try.prog 21 := int_keyed Try.underlying21
theorem keyI {r : Int} (h : okI r) : keyOf Try.prog 21 (.int .i32 r) = some (klI r) := keyOf_int_mk Try.underlying21 (by unfold okI at h; simp only [Lit.wf, IntKind.min, IntKind.max, IntKind.signed, IntKind.bits, Bool.and_eq_true, decide_eq_true_eq, if_true]; omega)
theorem zeroP (w : World) : (zeroValue 27).run Try.prog w = .ok zP w := by kernel_rfl
abbrev MapI (w : World) (B n : Nat) (f : Int → Option Value) : Prop := MapG 21 klI okI zP w B n f
/-- the function's two boxes, and its map -/
abbrev fv (bm bf : Nat) : Value := .func (.func 45) #[] #[.pointer (some ⟨bm, 0, none⟩), .pointer (some ⟨bf, 0, none⟩)]
def Part (W : World) (bm bf B : Nat) : Prop := W.heap[bm]? = some (.cells #[.map (some B)] 76) ∧ W.heap[bf]? = some (.cells #[fv bm bf] 55) ∧ MapI W B 74 fun r => (look tab r).map pv
theorem Part.block {W W' : World} {bm bf B : Nat} (h : Part W bm bf B) (h1 : W'.heap[bm]? = W.heap[bm]?) (h2 : W'.heap[bf]? = W.heap[bf]?) (h3 : W'.heap[B]? = W.heap[B]?) : Part W' bm bf B :=
  ⟨h1.trans h.1, h2.trans h.2.1, h.2.2.block h3⟩
theorem Part.alloc {W : World} {bm bf B : Nat} (h : Part W bm bf B) (o : Obj) : Part (W.alloc o) bm bf B :=
  h.block (Below.heap_alloc W o bm (lt_of_block h.1)) (Below.heap_alloc W o bf (lt_of_block h.2.1)) (Below.heap_alloc W o B h.2.2.lt)
/-- append(out, z): where it lies, and what stays -/
theorem app1x {w : World} {B : Nat} {vo : Value} {o : List Int} (own : w.ownsRow B 21 1 vo o.length (K.ints o)) (hB : B ≤ w.heap.size) (hl : o.length ≤ 50000000) (z : Int) :
    ∃ v' w', (∀ ty, (Builtin.append_ #[22, 22] ty #[vo, .slice (some ⟨w.heap.size, 0, none⟩) 1 1]).run Try.prog (w.alloc (.cells #[.int .i32 z] 21)) = .ok v' w') ∧ w'.ownsRow B 21 1 v' (o ++ [z]).length (K.ints (o ++ [z])) ∧ (∀ b, b < w.heap.size → vo.ownBlock ≠ some b → w'.heap[b]? = w.heap[b]?) ∧ w.heap.size ≤ w'.heap.size ∧ Below B w w' ∧ (v'.ownBlock = vo.ownBlock ∨ ∃ k, v'.ownBlock = some k ∧ w.heap.size ≤ k) := by
  have hal : Below w.heap.size w (w.alloc (.cells #[.int .i32 z] 21)) := (Below.refl _ w).alloc (Nat.le_refl _) _
  obtain ⟨v', w', run, own', gr, hn⟩ := K.app_rd _ B vo o (own.alloc _) _ [z] (rd_one w z) (by simp; omega) (by simp; omega)
  refine ⟨v', w', run, own', fun b hb hne => ?_, ?_, (hal.mono hB).grown gr (by simp; omega) fun k hk => (own.lt k hk).1, hn.imp id fun ⟨k, h1, h2⟩ => ⟨k, h1, by simp at h2; omega⟩⟩
  · rw [gr.block b (by simp; omega) (fun e => hne e.symm)]
    exact hal.block b hb
  · have := gr.size
    simp at this
    omega
abbrev Bz (W : World) (bf : Nat) (f : Value) (b : Nat) (x1 x2 : Int) : Prop := W.cell? ⟨bf, 0, none⟩ = some f ∧ W.cell? ⟨b, 0, none⟩ = some (.int .i32 x1) ∧ W.cell? ⟨b, 1, none⟩ = some (.int .i32 x2)
theorem cell_eq {W W' : World} {b i : Nat} (h : W'.heap[b]? = W.heap[b]?) : W'.cell? ⟨b, i, none⟩ = W.cell? ⟨b, i, none⟩ := by simp [World.cell?, h]
theorem Bz.move {W W' : World} {bf b : Nat} {f : Value} {x1 x2 : Int} (h : Bz W bf f b x1 x2) (h1 : W'.heap[bf]? = W.heap[bf]?) (h2 : W'.heap[b]? = W.heap[b]?) : Bz W' bf f b x1 x2 :=
  ⟨(cell_eq h1).trans h.1, (cell_eq h2).trans h.2.1, (cell_eq h2).trans h.2.2⟩
theorem rd1 {W : World} {g : Nat} {z : Int} (h : W.cell? ⟨g, 0, none⟩ = some (.int .i32 z)) : L.Rd W (.slice (some ⟨g, 0, none⟩) 1 1) .i32 [z] :=
  ⟨_, _, rfl, fun e => by (cases e), fun _ => ⟨_, 0, rfl, fun j y hj => by
    match j, hj with
    | 0, hj => cases hj; exact h
    | n + 1, hj => simp at hj⟩⟩
theorem kept_of {w w' : World} {v : Value} (gr : w.grownBy w' v.ownBlock) : ∀ b, b < w.heap.size → v.ownBlock ≠ some b → w'.heap[b]? = w.heap[b]? := fun b hb hne => gr.block b hb fun e => hne e.symm
theorem not_own {W : World} {F0 n bx : Nat} {v : Value} {xs cs : List Value} (h : W.ownsRow F0 21 1 v n xs) (hb : W.heap[bx]? = some (.cells cs.toArray 27)) : v.ownBlock ≠ some bx := fun e => by
  obtain ⟨_, cs', p', h2⟩ := Al.block h e
  rw [hb] at h2
  simp at h2
theorem bz_of {W : World} {bf bx : Nat} {f : Value} {x1 x2 x3 : Int} {t : TypeId} (h1 : W.heap[bf]? = some (.cells #[f] t)) (h2 : W.heap[bx]? = some (.cells #[.int .i32 x1, .int .i32 x2, .int .i32 x3] 27)) : Bz W bf f bx x1 x2 :=
  ⟨K.at_box (i := 0) h1 rfl, K.at_box (i := 0) h2 rfl, K.at_box (i := 1) h2 rfl⟩
end Nm

set_option maxHeartbeats 4000000 in
theorem nmPartS_any (r : Int) (W : World) (bm bf B F0 : Nat) (vo : Value) (o : List Int) (F : Int → List Int) (hlF : ∀ x, (F x).length ≤ 10)
    (hr : Nm.okI r) (hP : Nm.Part W bm bf B) (hbm : bm < F0) (hbf : bf < F0) (hB : B < F0) (hF0 : F0 ≤ W.heap.size) (own : W.ownsRow F0 21 1 vo o.length (K.ints o)) (hol : o.length ≤ 40000)
    (ih : ∀ p, Nm.look Nm.tab r = some p → ∀ Y, Nm.Part Y bm bf B → F0 ≤ Y.heap.size → Y.ownsRow F0 21 1 vo o.length (K.ints o) → Calls Try.prog 45 #[vo, .int .i32 p.1, .pointer (some ⟨bm, 0, none⟩), .pointer (some ⟨bf, 0, none⟩)] Y fun e w' => ∃ v', e = .returned v' ∧ w'.ownsRow F0 21 1 v' (o ++ F p.1).length (K.ints (o ++ F p.1)) ∧ Below F0 Y w' ∧ (∀ b, b < Y.heap.size → vo.ownBlock ≠ some b → w'.heap[b]? = Y.heap[b]?) ∧ (v'.ownBlock = vo.ownBlock ∨ ∃ k, v'.ownBlock = some k ∧ Y.heap.size ≤ k))
    (FL : List Int) (hFL : FL = match Nm.look Nm.tab r with | none => [r] | some p => F p.1 ++ [p.2.1]) :
    Calls Try.prog 45 #[vo, .int .i32 r, .pointer (some ⟨bm, 0, none⟩), .pointer (some ⟨bf, 0, none⟩)] W fun e w' => ∃ v', e = .returned v' ∧ w'.ownsRow F0 21 1 v' (o ++ FL).length (K.ints (o ++ FL)) ∧ Below F0 W w' ∧ (∀ b, b < W.heap.size → vo.ownBlock ≠ some b → w'.heap[b]? = W.heap[b]?) ∧ (v'.ownBlock = vo.ownBlock ∨ ∃ k, v'.ownBlock = some k ∧ W.heap.size ≤ k) := by
  have hlk := hP.2.2.look_ok (t := 76) (e := 27) Nm.keyedI Try.underlying76 Nm.zeroP r hr (.int .i32 r) (Nm.keyI hr)
  have c0 : W.cell? ⟨bm, 0, none⟩ = some (.map (some B)) := K.at_box (i := 0) hP.1 rfl
  have HOw : Hid (W.ownsRow F0 21 1 vo o.length (K.ints o) ∧ o.length ≤ 40000 ∧ F0 ≤ W.heap.size ∧ bm < F0 ∧ bf < F0 ∧ B < F0) := ⟨own, hol, hF0, hbm, hbf, hB⟩
  have HP : Hid (Nm.Part W bm bf B) := hP
  cases hl : Nm.look Nm.tab r with
  | none =>
    rw [hl] at hlk hFL
    simp only [Option.map_none, Option.getD_none, Option.isSome_none] at hlk hFL
    subst hFL
    have HZ : Nm.zP = .agg #[.int .i32 0, .int .i32 0, .int .i32 0] := rfl
    rw [HZ] at hlk
    obtain ⟨X, hX⟩ : ∃ X, X = W.alloc (.cells #[.int .i32 0, .int .i32 0, .int .i32 0] 27) := ⟨_, rfl⟩
    have bX : Below W.heap.size W X := by rw [hX]; exact (Below.refl _ W).alloc (Nat.le_refl _) _
    obtain ⟨v3, w3, run3, own3, kp3, sz3, be3, nw3⟩ := Nm.app1x (L.owns_below own bX (Nat.le_refl _)) (Nat.le_trans hF0 bX.size) (by omega) r
    have HE : Hid (w3.ownsRow F0 21 1 v3 (o ++ [r]).length (K.ints (o ++ [r])) ∧ Below F0 W w3 ∧ (∀ b, b < W.heap.size → vo.ownBlock ≠ some b → w3.heap[b]? = W.heap[b]?) ∧ (v3.ownBlock = vo.ownBlock ∨ ∃ k, v3.ownBlock = some k ∧ W.heap.size ≤ k)) :=
      ⟨own3, (bX.mono hF0).trans be3, fun b hb hne => (kp3 b (Nat.lt_of_lt_of_le hb bX.size) hne).trans (bX.block b hb), nw3.imp id fun ⟨k, h1, h2⟩ => ⟨k, h1, Nat.le_trans bX.size h2⟩⟩
    rw [hX] at run3
    have hXs : (W.alloc (.cells #[.int .i32 0, .int .i32 0, .int .i32 0] 27)).heap.size = W.heap.size + 1 := by simp
    rw [hXs] at run3
    clear hX bX own3 kp3 sz3 be3 nw3 hl HOw HP ih hP hlF own HZ hXs hol hF0 hbm hbf hB hr
    go_enter Try.func45, Try.ntmps45
    go_wp2_with (at_builtin; first | refine Lib.wpList_append_run _ rfl _ _ _ _ rfl _ _ rfl rfl _ _ (run3 _) ?_)
    go_ret
    exact ⟨_, rfl, HE.out⟩
  | some p =>
    rw [hl] at hlk hFL
    obtain ⟨x1, x2, x3⟩ := p
    simp only [Option.map_some, Option.getD_some, Option.isSome_some] at hlk hFL
    have HZ : Nm.pv (x1, x2, x3) = .agg #[.int .i32 x1, .int .i32 x2, .int .i32 x3] := rfl
    rw [HZ] at hlk
    have hFl := hlF x1
    have ih1 := ih _ hl
    simp only at ih1
    generalize F x1 = fx at hFL hFl ih1
    subst hFL
    obtain ⟨X, hX⟩ : ∃ X, X = W.alloc (.cells #[.int .i32 x1, .int .i32 x2, .int .i32 x3] 27) := ⟨_, rfl⟩
    have bX : Below W.heap.size W X := by rw [hX]; exact (Below.refl _ W).alloc (Nat.le_refl _) _
    obtain ⟨bx, hbe⟩ : ∃ bx, bx = W.heap.size := ⟨_, rfl⟩
    have hbx : X.heap[bx]? = some (.cells #[.int .i32 x1, .int .i32 x2, .int .i32 x3] 27) := by rw [hX, hbe]; exact heap_alloc_new W _
    have hPX : Nm.Part X bm bf B := by rw [hX]; exact hP.alloc _
    have ownX := L.owns_below own bX (Nat.le_refl _)
    have hFX : F0 ≤ X.heap.size := Nat.le_trans hF0 bX.size
    obtain ⟨O2, hO2⟩ : ∃ O2 : Obj, O2 = .cells #[.int .i32 x2] 21 := ⟨_, rfl⟩
    have HbX : Hid (X.heap[bx]? = some (.cells #[.int .i32 x1, .int .i32 x2, .int .i32 x3] 27) ∧ Nm.Part X bm bf B ∧ Below F0 W X ∧ W.heap.size ≤ X.heap.size ∧ bx = W.heap.size ∧ bx < X.heap.size) := ⟨hbx, hPX, bX.mono hF0, bX.size, hbe, lt_of_block hbx⟩
    have HC1 : Hid (Calls Try.prog 45 #[vo, .int .i32 x1, .pointer (some ⟨bm, 0, none⟩), .pointer (some ⟨bf, 0, none⟩)] X.drew fun e w' => ∃ v', e = .returned v' ∧ w'.ownsRow F0 21 1 v' (o ++ fx).length (K.ints (o ++ fx)) ∧ Below F0 X.drew w' ∧ (∀ b, b < X.drew.heap.size → vo.ownBlock ≠ some b → w'.heap[b]? = X.drew.heap[b]?) ∧ (v'.ownBlock = vo.ownBlock ∨ ∃ k, v'.ownBlock = some k ∧ X.drew.heap.size ≤ k)) := ih1 X.drew hPX hFX ownX
    have HC2 : Hid (Calls Try.prog 45 #[vo, .int .i32 x1, .pointer (some ⟨bm, 0, none⟩), .pointer (some ⟨bf, 0, none⟩)] (X.alloc (.cells #[.int .i32 x2] 21)).drew fun e w' => ∃ v', e = .returned v' ∧ w'.ownsRow F0 21 1 v' (o ++ fx).length (K.ints (o ++ fx)) ∧ Below F0 (X.alloc (.cells #[.int .i32 x2] 21)).drew w' ∧ (∀ b, b < (X.alloc (.cells #[.int .i32 x2] 21)).drew.heap.size → vo.ownBlock ≠ some b → w'.heap[b]? = (X.alloc (.cells #[.int .i32 x2] 21)).drew.heap[b]?) ∧ (v'.ownBlock = vo.ownBlock ∨ ∃ k, v'.ownBlock = some k ∧ (X.alloc (.cells #[.int .i32 x2] 21)).drew.heap.size ≤ k)) := ih1 (X.alloc (.cells #[.int .i32 x2] 21)).drew (hPX.alloc _) (Nat.le_trans hFX (by show X.heap.size ≤ (X.alloc _).heap.size; simp)) (ownX.alloc _)
    have HNe : Hid (vo.ownBlock ≠ some bx) := fun e => by have := (own.lt _ e).2; rw [hbe] at this; exact absurd this (Nat.lt_irrefl _)
    have HKd : Hid (Nm.Bz X.drew bf (Nm.fv bm bf) bx x1 x2) := Nm.bz_of hPX.2.1 hbx
    have HKD : Hid (Nm.Bz (X.alloc (.cells #[.int .i32 x2] 21)).drew bf (Nm.fv bm bf) bx x1 x2) := Nm.bz_of (hPX.alloc _).2.1 (W := X.alloc (.cells #[.int .i32 x2] 21)) ((Below.heap_alloc X _ bx (lt_of_block hbx)).trans hbx)
    have HB1 : Hid (X.drew.heap[bx]? = some (.cells [Value.int .i32 x1, .int .i32 x2, .int .i32 x3].toArray 27)) := hbx
    have HB2 : Hid ((X.alloc (.cells #[.int .i32 x2] 21)).drew.heap[bx]? = some (.cells [Value.int .i32 x1, .int .i32 x2, .int .i32 x3].toArray 27)) := (Below.heap_alloc X _ bx (lt_of_block hbx)).trans hbx
    have HCl : Hid ((X.alloc (.cells #[.int .i32 x2] 21)).drew.cell? ⟨X.heap.size, 0, none⟩ = some (.int .i32 x2) ∧ X.heap.size < (X.alloc (.cells #[.int .i32 x2] 21)).drew.heap.size ∧ vo.ownBlock ≠ some X.heap.size) := by
      refine ⟨K.at_box (i := 0) (heap_alloc_new X _) rfl, by show X.heap.size < (X.alloc _).heap.size; simp, fun e => ?_⟩
      have := (own.lt _ e).2
      have := bX.size
      omega
    have HRd : Hid (L.Rd (X.alloc (.cells #[.int .i32 x2] 21)).drew (.slice (some ⟨X.heap.size, 0, none⟩) 1 1) .i32 [x2]) := Nm.rd_one X x2
    have HfL : Hid (fx.length ≤ 10) := hFl
    have HWX : Hid (∀ b, b < W.heap.size → X.heap[b]? = W.heap[b]?) := bX.block
    clear hl HZ hlF ih ih1 hFl bX hbx hPX ownX hFX hP own hol hF0 hbm hbf hB hr hO2 HP
    go_enter Try.func45, Try.ntmps45
    go_upto_region 4 with fail
    rw [← hX, ← hbe]
    clear hX hbe c0 hlk
    have eg : ∀ args w, (callFunc 45 args).run Try.prog w = .ok (.enter 45 args) w := enters_of Try.func45 (by kernel_rfl) rfl
    have HE : Hid (∀ (Y wd1 w3 : World) (vd1 v3 : Value), Below F0 W Y → W.heap.size ≤ Y.heap.size → (∀ b, b < W.heap.size → Y.heap[b]? = W.heap[b]?) → Below F0 Y wd1 → (∀ b, b < Y.heap.size → vo.ownBlock ≠ some b → wd1.heap[b]? = Y.heap[b]?) → (vd1.ownBlock = vo.ownBlock ∨ ∃ k, vd1.ownBlock = some k ∧ Y.heap.size ≤ k) → Below F0 wd1 w3 → (∀ b, b < wd1.heap.size → vd1.ownBlock ≠ some b → w3.heap[b]? = wd1.heap[b]?) → (v3.ownBlock = vd1.ownBlock ∨ ∃ k, v3.ownBlock = some k ∧ wd1.heap.size ≤ k) → Below F0 W w3 ∧ (∀ b, b < W.heap.size → vo.ownBlock ≠ some b → w3.heap[b]? = W.heap[b]?) ∧ (v3.ownBlock = vo.ownBlock ∨ ∃ k, v3.ownBlock = some k ∧ W.heap.size ≤ k)) := fun Y wd1 w3 vd1 v3 h1 h2 h3 h4 h5 h6 h7 h8 h9 => by
      have hs := h4.size
      refine ⟨h1.trans (h4.trans h7), fun b hb hne => ?_, ?_⟩
      · have hb1 : b < Y.heap.size := Nat.lt_of_lt_of_le hb h2
        rw [h8 b (Nat.lt_of_lt_of_le hb1 hs) (fun e => h6.elim (fun h => hne (h ▸ e)) fun ⟨k, k1, k2⟩ => by rw [k1] at e; have := Option.some.inj e; omega), h5 b hb1 hne]
        exact h3 b hb
      · rcases h9 with h9 | ⟨k, k1, k2⟩
        · rcases h6 with h6 | ⟨k, k1, k2⟩
          · exact .inl (h9.trans h6)
          · exact .inr ⟨k, h9.trans k1, by omega⟩
        · exact .inr ⟨k, k1, by omega⟩
    have HY1 : Hid (Below F0 W X.drew ∧ W.heap.size ≤ X.drew.heap.size ∧ (∀ b, b < W.heap.size → X.drew.heap[b]? = W.heap[b]?) ∧ F0 ≤ X.drew.heap.size ∧ bf < F0 ∧ bx < X.drew.heap.size) := ⟨Nm.below_drew HbX.out.2.2.1, HbX.out.2.2.2.1, HWX.out, Nat.le_trans HOw.out.2.2.1 HbX.out.2.2.2.1, HOw.out.2.2.2.2.1, HbX.out.2.2.2.2.2⟩
    have HY2 : Hid (Below F0 W (X.alloc (.cells #[.int .i32 x2] 21)).drew ∧ W.heap.size ≤ (X.alloc (.cells #[.int .i32 x2] 21)).drew.heap.size ∧ (∀ b, b < W.heap.size → (X.alloc (.cells #[.int .i32 x2] 21)).drew.heap[b]? = W.heap[b]?) ∧ F0 ≤ (X.alloc (.cells #[.int .i32 x2] 21)).drew.heap.size ∧ bf < F0 ∧ bx < (X.alloc (.cells #[.int .i32 x2] 21)).drew.heap.size) := by
      have hs : X.heap.size ≤ (X.alloc (.cells #[.int .i32 x2] 21)).drew.heap.size := by show X.heap.size ≤ (X.alloc _).heap.size; simp
      have h0 := HbX.out.2.2.2.1
      have h1 := HOw.out.2.2.1
      have h2 := HbX.out.2.2.2.2.2
      exact ⟨Nm.below_drew (HbX.out.2.2.1.alloc (by omega) _), by omega, fun b hb => (Below.heap_alloc X _ b (by omega)).trans (HWX.out b hb), by omega, HOw.out.2.2.2.2.1, by omega⟩
    have HoL : Hid (o.length ≤ 40000) := HOw.out.2.1
    clear HbX HWX HOw
    go_region_held3 (fun w' => w'.cell? ⟨bf, 0, none⟩ = some (Nm.fv bm bf) ∧ w'.cell? ⟨bx, 0, none⟩ = some (.int .i32 x1) ∧ w'.cell? ⟨bx, 1, none⟩ = some (.int .i32 x2))
      (first | with_reducible exact HKd.out | with_reducible exact HKD.out | with_reducible exact q1 | with_reducible exact ⟨K.alloc_cell q1.1 _, K.alloc_cell q1.2.1 _, K.alloc_cell q1.2.2 _⟩ | with_reducible exact q3 | fail)
      (first
        | (go_at_call 45; with_reducible refine HC1.out.mono ?_; rintro e wd1 ⟨vd1, rfl, own1, b1, kb1, nb1⟩; have hx1 := kb1 bx HY1.out.2.2.2.2.2 HNe.out; have q1 : Nm.Bz wd1 bf (Nm.fv bm bf) bx x1 x2 := HKd.out.move (b1.block bf HY1.out.2.2.2.2.1) hx1; have zs : F0 ≤ wd1.heap.size := Nat.le_trans HY1.out.2.2.2.1 b1.size; obtain ⟨v3, w3, runA, own3, kp3, _, be3, nw3⟩ := Nm.app1x own1 zs (by have := HoL.out; have := HfL.out; simp; omega) x2; have q3 : Nm.Bz w3 bf (Nm.fv bm bf) bx x1 x2 := q1.move (be3.block bf HY1.out.2.2.2.2.1) (kp3 bx (lt_of_block (hx1.trans HB1.out)) (Nm.not_own own1 (hx1.trans HB1.out))); have hfin := HE.out _ wd1 w3 vd1 v3 HY1.out.1 HY1.out.2.1 HY1.out.2.2.1 b1 kb1 nb1 be3 kp3 nw3)
        | (go_at_call 45; with_reducible refine HC2.out.mono ?_; rintro e wd1 ⟨vd1, rfl, own1, b1, kb1, nb1⟩; have hx1 := kb1 bx HY2.out.2.2.2.2.2 HNe.out; have q1 : Nm.Bz wd1 bf (Nm.fv bm bf) bx x1 x2 := HKD.out.move (b1.block bf HY2.out.2.2.2.2.1) hx1; have zs : F0 ≤ wd1.heap.size := Nat.le_trans HY2.out.2.2.2.1 b1.size; obtain ⟨v3, w3, runB, own3, gr3, nw3⟩ := K.app_rd wd1 F0 vd1 (o ++ fx) own1 _ [x2] (Nm.rd1 ((Nm.cell_eq (kb1 _ HCl.out.2.1 HCl.out.2.2)).trans HCl.out.1)) (by have := HoL.out; have := HfL.out; simp; omega) zs; have be3 : Below F0 wd1 w3 := (Below.refl _ wd1).grown gr3 zs (fun k hk => (own1.lt k hk).1); have kp3 : ∀ b, b < wd1.heap.size → vd1.ownBlock ≠ some b → w3.heap[b]? = wd1.heap[b]? := Nm.kept_of gr3; have q3 : Nm.Bz w3 bf (Nm.fv bm bf) bx x1 x2 := q1.move (be3.block bf HY2.out.2.2.2.2.1) (kp3 bx (lt_of_block (hx1.trans HB2.out)) (Nm.not_own own1 (hx1.trans HB2.out))); have hfin := HE.out _ wd1 w3 vd1 v3 HY2.out.1 HY2.out.2.1 HY2.out.2.2.1 b1 kb1 nb1 be3 kp3 nw3)
        | (have hz := runA; clear hz; refine K.step_run (by rfl) (.tmp 25) (.tmp 28) (by rfl) _ _ _ w3 (by rfl) (by rfl) runA ?_)
        | (have hz := runB; clear hz; refine K.step_run (by rfl) (.tmp 25) (.tmp 28) (by rfl) _ _ _ w3 (by rfl) (by rfl) runB ?_)
        | fail)
    all_goals
      rw [List.append_assoc] at own3
      have HG : Hid (w3.ownsRow F0 21 1 v3 (o ++ (fx ++ [x2])).length (K.ints (o ++ (fx ++ [x2]))) ∧ Below F0 W w3 ∧ (∀ b, b < W.heap.size → vo.ownBlock ≠ some b → w3.heap[b]? = W.heap[b]?) ∧ (v3.ownBlock = vo.ownBlock ∨ ∃ k, v3.ownBlock = some k ∧ W.heap.size ≤ k)) := ⟨own3, hfin⟩
      clear hfin own3 q3 q1 own1 b1 kb1 nb1 be3 kp3 nw3 hx1 zs
      go_wp2
      go_ret
      exact ⟨_, rfl, HG.out⟩

/-- a rune behind a list, taken apart -/
theorem nmPart1_any : ∀ (n : Nat) (r : Int) (W : World) (bm bf B F0 : Nat) (vo : Value) (o : List Int), n ≤ 2 → Nm.deep n r → Nm.okI r → Nm.Part W bm bf B → bm < F0 → bf < F0 → B < F0 → F0 ≤ W.heap.size → W.ownsRow F0 21 1 vo o.length (K.ints o) → o.length ≤ 40000 →
    Calls Try.prog 45 #[vo, .int .i32 r, .pointer (some ⟨bm, 0, none⟩), .pointer (some ⟨bf, 0, none⟩)] W fun e w' => ∃ v', e = .returned v' ∧ w'.ownsRow F0 21 1 v' (o ++ Nm.full n r).length (K.ints (o ++ Nm.full n r)) ∧ Below F0 W w' ∧ (∀ b, b < W.heap.size → vo.ownBlock ≠ some b → w'.heap[b]? = W.heap[b]?) ∧ (v'.ownBlock = vo.ownBlock ∨ ∃ k, v'.ownBlock = some k ∧ W.heap.size ≤ k)
  | 0, r, W, bm, bf, B, F0, vo, o, _, hd, hr, hP, h1, h2, h3, h4, h5, h6 => nmPartS_any r W bm bf B F0 vo o (fun _ => []) (fun _ => by simp) hr hP h1 h2 h3 h4 h5 h6 (fun p hp => by rw [show Nm.look Nm.tab r = none from hd] at hp; cases hp) _ (by rw [show Nm.look Nm.tab r = none from hd]; rfl)
  | n + 1, r, W, bm, bf, B, F0, vo, o, hn, hd, hr, hP, h1, h2, h3, h4, h5, h6 => nmPartS_any r W bm bf B F0 vo o (fun x => if (Nm.full n x).length ≤ 10 then Nm.full n x else []) (fun x => by split <;> simp_all) hr hP h1 h2 h3 h4 h5 h6 (fun p hp Y hY hF hO => by
      rw [if_pos (by have := Nm.full_len n p.1; omega)]
      have hb := Nm.tab_bd p (Nm.look_mem hp).1
      exact nmPart1_any n p.1 Y bm bf B F0 vo o (by omega) (hd p hp) (by unfold Nm.okI; omega) hY h1 h2 h3 hF hO h6) _ (by
      rw [Nm.full]
      cases hl : Nm.look Nm.tab r with
      | none => rfl
      | some p => simp only; rw [if_pos (by have := Nm.full_len n p.1; omega)])

end Go.Proofs.Ytbclmmkphjknaaa
