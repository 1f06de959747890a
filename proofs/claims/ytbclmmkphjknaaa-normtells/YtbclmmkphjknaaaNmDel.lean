/-
  slices.DeleteFunc over a row of one's own: the marks go.
-/
import Derived.Test.YtbclmmkphjknaaaKRow
import Derived.Test.YtbclmmkphjknaaaNmMarks
namespace Go.Proofs.Ytbclmmkphjknaaa
open Go.RowKit
set_option maxRecDepth 20000
set_option linter.unusedSimpArgs false
set_option linter.unusedVariables false

namespace Nm
abbrev bare (l : List Int) : List Int := l.filter fun r => !isM r
/-- where the deleting stands -/
def Dl (w wr : World) (F0 g n cap : Nat) (t : List Int) (i j : Nat) : Prop :=
  ∃ cs : List Value, K.Row wr g cs ∧ cs.length = cap ∧ Below F0 w wr ∧ F0 ≤ g ∧ i = (bare (t.take j)).length ∧ cs.take i = K.ints (bare (t.take j)) ∧ ∀ k, j ≤ k → k < n → cs[k]? = (t[k]?).map (.int .i32)
theorem Dl.le {w wr : World} {F0 g n cap : Nat} {t : List Int} {i j : Nat} (h : Dl w wr F0 g n cap t i j) : i ≤ j := by
  obtain ⟨cs, _, _, _, _, h5, _⟩ := h
  rw [h5]
  refine Nat.le_trans (List.length_filter_le _ _) ?_
  rw [List.length_take]; omega
theorem Dl.keep {w wr : World} {F0 g n cap : Nat} {t : List Int} {i j : Nat} {r : Int} (h : Dl w wr F0 g n cap t i j) (hr : t[j]? = some r) (hm : isM r = true) : Dl w wr F0 g n cap t i (j + 1) := by
  obtain ⟨cs, h1, h2, h3, h4, h5, h6, h7⟩ := h
  have e : bare (t.take (j + 1)) = bare (t.take j) := by unfold bare; rw [List.take_add_one, hr, List.filter_append]; simp [hm]
  exact ⟨cs, h1, h2, h3, h4, by rw [e]; exact h5, by rw [e]; exact h6, fun k hk => h7 k (by omega)⟩
theorem Dl.put {w wr : World} {F0 g n cap : Nat} {t : List Int} {i j : Nat} {r : Int} (h : Dl w wr F0 g n cap t i j) (hr : t[j]? = some r) (hm : isM r = false) (hj : j < cap) (hF : F0 ≤ wr.heap.size) : Dl w (wr.setCell ⟨g, i, none⟩ (.int .i32 r)) F0 g n cap t (i + 1) (j + 1) := by
  have hij := h.le
  obtain ⟨cs, h1, h2, h3, h4, h5, h6, h7⟩ := h
  have e : bare (t.take (j + 1)) = bare (t.take j) ++ [r] := by unfold bare; rw [List.take_add_one, hr, List.filter_append]; simp [hm]
  obtain ⟨c1, c2⟩ := K.Row.cells [.int .i32 r] h1 (o := i) (by simp; omega)
  refine ⟨K.spl cs i [.int .i32 r], c1, ?_, h3.grown c2 hF (fun k hk => by injection hk with hk; omega), h4, by rw [e]; simp; exact h5, ?_, fun k hk hkn => ?_⟩
  · rw [K.spl_length (by simp; omega)]; exact h2
  · rw [e]
    have := K.spl_upto (cur := cs) (o := i) (vs := [.int .i32 r]) (by omega)
    rw [show i + 1 = i + [Value.int .i32 r].length by rfl, this, h6]
    simp [K.ints]
  · rw [← h7 k (by omega) hkn]
    have := congrArg (fun l => l[k - (i + 1)]?) (K.spl_drop (cur := cs) (o := i) (n := i + 1) (vs := [.int .i32 r]) (by omega) (by simp))
    simp only [List.getElem?_drop] at this
    rwa [show i + 1 + (k - (i + 1)) = k by omega] at this
end Nm

set_option maxHeartbeats 4000000 in
theorem nmDel_any (w : World) (F0 n cap : Nat) (xo : Option Addr) (t : List Int) (own : w.ownsRow F0 21 1 (.slice xo n cap) n (K.ints t)) (hn : t.length = n) (hl : n ≤ 1000000) (hF : F0 ≤ w.heap.size) :
    Calls Try.prog 35 #[.slice xo n cap, .func (.func 36) #[] #[]] w fun e w' => ∃ v', e = .returned v' ∧ w'.ownsRow F0 21 1 v' (Nm.bare t).length (K.ints (Nm.bare t)) ∧ Below F0 w w' := by
  have eg : ∀ args w, (callFunc 36 args).run Try.prog w = .ok (.enter 36 args) w := enters_of Try.func36 (by kernel_rfl) rfl
  subst hn
  have R : L.Rd w (.slice xo t.length cap) .i32 t := K.rd_owns own
  have HC : Hid (Calls Try.prog 51 #[.slice xo t.length cap, .func (.func 36) #[] #[]] w fun e w' => ∃ i : Int, e = .returned (.int .i64 i) ∧ Cn.Idx t Nm.isM i ∧ Below w.heap.size w w') :=
    rnFirst_any w _ t R (by omega) _ #[] _ eg fun W r _ _ => (nmMark_any r W).mono fun e w' ⟨h1, h2⟩ => ⟨h1, h2 ▸ Below.refl _ _⟩
  have HO : Hid (w.ownsRow F0 21 1 (.slice xo t.length cap) t.length (K.ints t)) := own
  have HM : Hid (∀ r X, Calls Try.prog 36 #[.int .i32 r] X fun e w' => e = .returned (.bool (Nm.isM r)) ∧ w' = X) := fun r X => nmMark_any r X
  clear own R
  go_enter Try.func35, Try.ntmps35
  go_wp2_with fail
  refine HC.out.mono ?_
  rintro e w1 ⟨i, rfl, hi, b1⟩
  have HB : Hid (Below w.heap.size w w1) := b1
  clear b1 HC
  rcases hi with ⟨rfl, h⟩ | ⟨j0, x, rfl, hx, h1, h2⟩
  · have hb : Nm.bare t = t := List.filter_eq_self.2 fun r hr => by have := h r hr; simpa using this
    have HF : Hid (w1.ownsRow F0 21 1 (.slice xo t.length cap) (Nm.bare t).length (K.ints (Nm.bare t)) ∧ Below F0 w w1) := by
      show _ ∧ _
      rw [hb]
      exact ⟨L.owns_below HO.out HB.out (Nat.le_refl _), HB.out.mono hF⟩
    clear h hb HO
    go_wp2
    go_ret
    exact ⟨_, rfl, HF.out⟩
  · have hjt : j0 < t.length := (List.getElem?_eq_some_iff.1 hx).1
    obtain ⟨hx0, hw⟩ := L.owns_below HO.out HB.out (Nat.le_refl _)
    rcases hw with ⟨e0, _⟩ | ⟨g, cap', cur, e0, hb, hg, hnn, hm, hs, ht⟩
    · have := (Value.slice.inj e0).2.1; omega
    · obtain ⟨rfl, -, rfl⟩ := Value.slice.inj e0
      have hs0 : Nm.Dl w w1 F0 g t.length cap t j0 j0 := by
        have hbr : Nm.bare (t.take j0) = t.take j0 := List.filter_eq_self.2 fun r hr => by have := h2 r hr; simpa using this
        have hsz : cur.size = cap := by simpa using hs
        refine ⟨cur.toList, by unfold K.Row; simpa using hg, by simpa using hsz, HB.out.mono hF, hb, by rw [hbr, List.length_take]; omega, ?_, fun k hk hkn => ?_⟩
        · rw [hbr]
          have := congrArg (List.take j0) ht
          rw [List.take_take, Nat.min_eq_left (by omega)] at this
          rw [this]; simp [K.ints, List.map_take]
        · have := congrArg (fun l => l[k]?) ht
          simp only [List.getElem?_take] at this
          rw [if_pos (by omega)] at this
          rw [this]; unfold K.ints; rw [List.getElem?_map]
      have HD0 : Hid (Nm.Dl w w1 F0 g t.length cap t j0 (j0 + 1)) := hs0.keep hx h1
      have hcap : t.length ≤ cap := by simpa using hnn
      have hcm : cap ≤ maxLen := hm
      have HCm : Hid (cap ≤ maxLen) := hm
      have hcm2 : cap ≤ 9223372036854775807 := by unfold maxLen at hcm; omega
      have HS0 : Hid (F0 ≤ w1.heap.size) := Nat.le_trans hF HB.out.size
      clear hs0 hg hnn hm hs ht hb hx0 HO h1 h2 hx hcm e0
      go_wp2
      go_loopw [5, 6] (fun vi vj wr => ∃ i j : Nat, vi = .int .i64 i ∧ vj = .int .i64 j ∧ i < j ∧ j ≤ t.length ∧ Hid (Nm.Dl w wr F0 g t.length cap t i j) ∧ Hid (F0 ≤ wr.heap.size)) (fun _ vj _ => t.length - (intOf vj).toNat)
      case atStart => exact ⟨j0, j0 + 1, by go_num, by go_num, by omega, by omega, HD0, HS0⟩
      case round =>
        obtain ⟨i, j, rfl, rfl, hij, hj, HD, HS⟩ := hrel
        clear HD0 HS0
        by_cases hlt : j < t.length
        · obtain ⟨r, hr⟩ : ∃ r, t[j]? = some r := ⟨t[j], by simp [hlt]⟩
          obtain ⟨cs, d1, d2, d3, d4, d5, d6, d7⟩ := HD.out
          have c0 : wr.cell? ⟨g, j, none⟩ = some (.int .i32 r) := by rw [d1.cell, d7 j (Nat.le_refl _) hlt, hr]; rfl
          have fi : wr.frozen? ⟨g, i, none⟩ = false := d1.free i
          obtain ⟨z, ci⟩ : ∃ z, wr.cell? ⟨g, i, none⟩ = some z := ⟨cs[i]'(by omega), by rw [d1.cell]; simp⟩
          have hC := HM.out r
          cases hmr : Nm.isM r with
          | true =>
            have HK : Hid (Nm.Dl w wr F0 g t.length cap t i (j + 1)) := HD.out.keep hr hmr
            rw [hmr] at hC
            clear hr d1 d2 d3 d4 d5 d6 d7 hmr HD HM
            go_wp2_with fail
            refine (hC _).mono ?_
            rintro e wa ⟨rfl, rfl⟩
            go_wp2
            go_roundw
            case rel => exact ⟨_, _, _, _, _, _, _, _, _, _, _, _, _, _, _, _, _, _, _, _, _, _, _, ⟨i, j + 1, by go_num, by go_num, by omega, by omega, HK, HS⟩, rfl⟩
            case measure => simp [intOf]; omega
          | false =>
            have HK : Hid (Nm.Dl w (wr.setCell ⟨g, i, none⟩ (.int .i32 r)) F0 g t.length cap t (i + 1) (j + 1)) := HD.out.put hr hmr (by omega) HS.out
            have HS2 : Hid (F0 ≤ (wr.setCell ⟨g, i, none⟩ (.int .i32 r)).heap.size) := by show _ ≤ _; simpa using HS.out
            rw [hmr] at hC
            clear hr d1 d2 d3 d4 d5 d6 d7 hmr HD HM
            go_wp2_with fail
            refine (hC _).mono ?_
            rintro e wa ⟨rfl, rfl⟩
            go_wp2
            go_roundw
            case rel => exact ⟨_, _, _, _, _, _, _, _, _, _, _, _, _, _, _, _, _, _, _, _, _, _, _, ⟨i + 1, j + 1, by go_num, by go_num, by omega, by omega, HK, HS2⟩, rfl⟩
            case measure => simp [intOf]; omega
        · have ej : j = t.length := by omega
          subst ej
          obtain ⟨cs, d1, d2, d3, d4, d5, d6, d7⟩ := HD.out
          rw [List.take_length] at d5 d6
          obtain ⟨W, hclr, c1, c2⟩ := d1.clear i (t.length - i) (cap - i) (by omega) (by omega)
          have own3 : W.ownsRow F0 21 1 (.slice (some ⟨g, 0, none⟩) i cap) (Nm.bare t).length (K.ints (Nm.bare t)) := by
            rw [← d5]
            refine ⟨by rw [d5]; simp [K.ints], .inr ⟨g, cap, (K.spl cs i (List.replicate (t.length - i) (.int .i32 0))).toArray, rfl, d4, c1, by omega, HCm.out, ?_, ?_⟩⟩
            · rw [List.size_toArray, K.spl_length (by simp; omega)]; omega
            · rw [Nat.mul_one, K.spl_take (by omega)]; exact d6
          have HF : Hid (W.ownsRow F0 21 1 (.slice (some ⟨g, 0, none⟩) i cap) (Nm.bare t).length (K.ints (Nm.bare t)) ∧ Below F0 w W) := ⟨own3, d3.grown c2 HS.out fun k hk => by injection hk with hk; omega⟩
          have hne : ¬ cap = i := by omega
          clear own3 d1 d2 d3 d4 d5 d6 d7 c1 c2 HD HS HM HB HCm
          go_wp2_with (at_builtin; refine K.wpl_clear _ rfl _ _ rfl _ rfl (hclr _) ?_; clear hclr)
          go_ret
          exact ⟨_, rfl, HF.out⟩

end Go.Proofs.Ytbclmmkphjknaaa
