/-
  What the document's Play answers.
-/
import Derived.Test.YtcphiemfjdbhfaaGNew
import Derived.Test.YtcphiemfjdbhfaaGApp
import Derived.Deep.DeepCutAuto
namespace Go.Proofs.Ytcphiemfjdbhfaa
open Go.RowKit

attribute [local go_sem ↓] Go.wp_at_zero Go.wp_at_succ

namespace G
theorem rd_take {W : World} {ta : Option Addr} {tc : Nat} {A Z : List Int} (h : L.Rd W (.slice ta (A.length + Z.length) tc) .i32 (A ++ Z)) : L.Rd W (.slice ta A.length tc) .i32 A := by
  obtain ⟨ao, cap, hv, hn, hc⟩ := h
  rw [List.length_append] at hv
  cases hv
  refine ⟨ta, tc, rfl, hn, fun hz => ?_⟩
  obtain ⟨b, off, h, hcell⟩ := hc (by simp [hz])
  refine ⟨b, off, h, fun j z hj => hcell j z ?_⟩
  rw [List.getElem?_append_left (List.getElem?_eq_some_iff.1 hj).1]; exact hj
theorem rd_drop {W : World} {ta : Option Addr} {tc : Nat} {A Z : List Int} (h : L.Rd W (.slice ta (A.length + Z.length) tc) .i32 (A ++ Z)) (hle : A.length + Z.length ≤ tc) : L.Rd W (.slice (if tc = A.length then ta else Option.map (fun x => x.add A.length) ta) Z.length (tc - A.length)) .i32 Z := by
  obtain ⟨ao, cap, hv, hn, hc⟩ := h
  rw [List.length_append] at hv
  cases hv
  refine ⟨_, _, rfl, fun e => ?_, fun hz => ?_⟩
  · split at e
    · omega
    · cases ta with
      | none => have := hn rfl; omega
      | some a => cases e
  · have := List.length_pos_iff.2 hz
    obtain ⟨b, off, h, hcell⟩ := hc (by simp [hz])
    subst h
    rw [if_neg (by omega)]
    refine ⟨b, off + A.length, by rw [Option.map_some, L.addr_add], fun j z hj => ?_⟩
    rw [Nat.add_assoc]
    refine hcell _ z ?_
    rw [List.getElem?_append_right (by omega), Nat.add_sub_cancel_left]; exact hj
theorem app_take {w : World} {B : Nat} {a : Option Addr} {c : Nat} {A : List Int} (h : App w B (.slice a A.length c) A) (m : Nat) (hm : m ≤ A.length) : App w B (.slice a m m) (A.take m) := by
  have hl : (A.take m).length = m := by rw [List.length_take]; omega
  refine ⟨⟨a, m, by rw [hl], fun e => ?_, fun hz => ?_⟩, fun _ _ _ e => by cases e; exact Nat.le_refl _, .inl ⟨a, by rw [hl]⟩, fun hz => ?_⟩
  · obtain ⟨ao, cap, hv, hn, hc⟩ := h.rd
    cases hv
    by_cases hA : A = []
    · subst hA; simpa using hm
    · obtain ⟨b, off, h2, _⟩ := hc hA; rw [e] at h2; cases h2
  · have hA : A ≠ [] := fun e => hz (by rw [e, List.take_nil])
    obtain ⟨ao, cap, hv, hn, hc⟩ := h.rd
    cases hv
    obtain ⟨b, off, h2, hcell⟩ := hc hA
    refine ⟨b, off, h2, fun j z hj => hcell j z ?_⟩
    rw [List.getElem?_take] at hj
    split at hj
    · exact hj
    · cases hj
  · have hA : A ≠ [] := fun e => hz (by rw [e, List.take_nil])
    obtain ⟨k, h1, h2, h3⟩ := h.blk hA
    refine ⟨k, ?_, h2, h3⟩
    cases a with
    | none => cases h1
    | some ad => exact h1
theorem App.far {w : World} {B b n c : Nat} {t : Option Addr} {zs : List Int} (h : App w B (.slice t n c) zs) (hb : b < B) : zs ≠ [] → ∀ ad, t = some ad → b < ad.block := fun hz ad e => by
  obtain ⟨k, h1, h2, _⟩ := h.blk hz
  subst e
  cases h1
  omega
theorem rd_set {w : World} {b i n c : Nat} {u : Value} {t : Option Addr} {zs : List Int} (h : L.Rd w (.slice t n c) .i32 zs) (hf : zs ≠ [] → ∀ ad, t = some ad → b < ad.block) : L.Rd (w.setCell ⟨b, i, none⟩ u) (.slice t n c) .i32 zs :=
  rd_grown h (r := some b) ⟨rfl, rfl, rfl, by simp, fun k _ hk => heap_setCell_other w ⟨b, i, none⟩ k u (fun e => hk (by simp [e]))⟩ fun hz k e hv => by
    cases e
    cases t with
    | none => cases hv
    | some ad => cases hv; have := hf hz ad rfl; omega
/-- made in world Y, which X has grown to -/
def New2 (B : Nat) (X Y W : World) (v : Value) (zs : List Int) : Prop := Below B X Y ∧ New Y W v zs
theorem step_append_new2 {ops : Array Oper} {o : Oper} {a : Act} {w : World} {K : Act → World → Prop} {Q : Exit → Act → World → Prop} {E : Prop} (hgd : o.guard = none) (s x : Operand)
    (ho : o.op = .call { callee := .builtin .append, args := #[s, x], argTypes := #[22, 22] })
    (ao : Option Addr) (hs : a.eval s = .slice ao 0 0) (vx : Value) (hx : a.eval x = vx) (zs : List Int) (hr : L.Rd w vx .i32 zs) (hl : zs.length ≤ 1000000) (B : Nat) (X : World) (hB : Below B X w)
    (h : ∀ v' w', New2 B X w w' v' zs → K (a.put o.dst v') w') :
    if Region.wanted o (yielded ops a.tmps) = true then Oper.wp Try.prog o a w K Q else E :=
  step_append_new hgd s x ho ao hs vx hx zs hr hl fun v' w' n => h v' w' ⟨hB, n⟩
end G

set_option maxHeartbeats 8000000 in
theorem rplay_bad (w : World) (sp : Option Addr) (c : Nat) (R : List Int) (vl : Value) (l : List G.Ed) (h4 : 4000 < R.length) (hR : R.length ≤ 140737488355328) :
    Calls Try.prog 5 #[.slice sp R.length c, vl] w (G.Plays w R l) := by
  have HR : Hid (G.res R l = ((4, 0), [], 0)) := by show _ = _; unfold G.res; rw [if_pos h4]
  go_enter Try.func5, Try.ntmps5
  go_wp2
  refine bodyPost_ret (v := .tuple #[.slice none 0 0, .int .i64 0, .agg #[.int .i64 4, .int .i64 0]]) (by simp [results, Try.results5, go_sem]) rfl ?_
  exact G.Plays.of (k := 0) (c := 0) HR.out (rd_nil _ _) ((Below.refl _ w).alloc (Nat.le_refl _) _)

set_option maxHeartbeats 8000000 in
set_option maxRecDepth 100000 in
theorem rplay_ok (w : World) (v : Value) (R : List Int) (vl : Value) (l : List G.Ed) (hv : L.Rd w v .i32 R) (hl : G.RdE w vl l) (h4 : R.length ≤ 4000) :
    Calls Try.prog 5 #[v, vl] w (G.Plays w R l) := by
  have HV : Hid (L.Rd w v .i32 R) := hv
  obtain ⟨sp, c, rfl, _⟩ := hv
  obtain ⟨ao, cap, rfl, hl63, hc⟩ := hl
  obtain ⟨w1, hw1⟩ : ∃ w1, w1 = (w.alloc (.cells #[.int .i64 0, .int .i64 0] 26)) := ⟨_, rfl⟩
  have HB : Hid (Below w.heap.size w w1) := by rw [hw1]; exact (Below.refl _ w).alloc (Nat.le_refl _) _
  have HBl : Hid (w1.heap[w.heap.size]? = some (.cells #[.int .i64 0, .int .i64 0] 26 (0, 0))) := by rw [hw1]; exact Go.heap_alloc_new w _
  have HS1 : Hid (w1.heap.size = w.heap.size + 1) := by rw [hw1]; show _ = _; simp
  have HW : Hid (w1 = (w.alloc (.cells #[.int .i64 0, .int .i64 0] 26))) := hw1
  clear hw1
  go_enter Try.func5, Try.ntmps5
  rw [HW.out] at HBl
  obtain ⟨vt, W0, hrun, ha, r0, hg0, hk0⟩ := G.app_run ((w.alloc (.cells #[.int .i64 0, .int .i64 0] 26)).alloc (.cells #[] 21)) (w.heap.size + 1) (.slice (some ⟨w.heap.size + 1, 0, none⟩) 0 0) (.slice sp R.length c) [] R (G.App.empty _ _ _)
    (HV.out.below (((Below.refl _ w).alloc (Nat.le_refl _) _).alloc (by simp) _) (Nat.le_refl _)) (by simp; omega) (by simp)
  rw [List.nil_append] at ha
  obtain ⟨at0, ct0, hvt, _⟩ := ha.rd
  subst hvt
  have hct0 := ha.cap _ _ _ rfl
  have HR0 : Hid (L.Rd W0 (.slice at0 R.length ct0) .i32 R) := ha.rd
  have HB0 : Hid (Below (w.heap.size + 1) (w.alloc (.cells #[.int .i64 0, .int .i64 0] 26)) W0) := (((Below.refl _ _).alloc (by simp) _).grown hg0 (by simp) fun k e => absurd rfl (hk0 k e).1)
  rw [← HW.out] at HB0 HBl
  have HF0 : Hid ([] ++ R ≠ [] → ∀ ad, at0 = some ad → w.heap.size < ad.block) := ha.far (by omega)
  clear ha hg0 hk0
  go_wp2_with (at_builtin; refine Lib.wpList_append_run _ rfl _ _ _ _ rfl _ _ rfl rfl _ _ (hrun _) ?_)
  clear hrun HW
  go_loopw [7, 8, 23] (fun t at_ i wr => ∃ (k : Nat) (A Z : List Int) (ta : Option Addr) (tc : Nat), k ≤ l.length ∧ i = .int .i64 k ∧ at_ = .int .i64 A.length ∧ t = .slice ta (A.length + Z.length) tc ∧ A.length + Z.length ≤ tc ∧ A.length + Z.length ≤ 4000 ∧ Hid (L.Rd wr (.slice ta (A.length + Z.length) tc) .i32 (A ++ Z)) ∧ Hid (Below (w.heap.size + 1) w1 wr) ∧ Hid (A ++ Z ≠ [] → ∀ ad, ta = some ad → w.heap.size < ad.block) ∧ Hid (G.play k (l.drop k) (A, Z) = G.play 0 l ([], R))) (fun _ _ i _ => l.length - (intOf i).toNat)
  case atStart => exact ⟨0, [], R, at0, ct0, Nat.zero_le _, rfl, rfl, by simp, by simpa using hct0, by simpa using h4, by show L.Rd _ _ _ _; simpa using HR0.out, HB0, HF0, by show _ = _; rw [List.drop_zero]⟩
  case round =>
    obtain ⟨k, A, Z, ta, tc, hk, rfl, rfl, rfl, htc, hAZ, HRt, HBw1, HFt, HP⟩ := hrel
    clear HR0 HB0 hct0
    have hsz : w.heap.size + 1 ≤ wr.heap.size := by have := HBw1.out.size; have := HS1.out; omega
    have HBw : Hid (Below w.heap.size w wr) := HB.out.trans (HBw1.out.mono (by omega))
    have HBL : Hid (wr.heap[w.heap.size]? = some (.cells #[.int .i64 0, .int .i64 0] 26 (0, 0))) := (HBw1.out.block _ (by omega)).trans HBl.out
    by_cases hlt : k < l.length
    · obtain ⟨b, off, rfl, hcell⟩ := hc (by intro h; subst h; simp at hlt)
      obtain ⟨e, he⟩ : ∃ e, l[k]? = some e := ⟨l[k], by simp [hlt]⟩
      obtain ⟨q0, q1, sp2, cp2, q2, rd2, len2, hk64, hn64⟩ := hcell k e he
      have hb := L.block_lt q0
      rw [← HBw.out.cell (p := ⟨b, _, none⟩) hb] at q0 q1 q2
      have HPS : Hid (G.play k (l.drop k) (A, Z) = if (G.step e (A, Z)).1 = 0 then G.play (k + 1) (l.drop (k + 1)) (G.step e (A, Z)).2 else ((G.step e (A, Z)).1, k, (A, Z))) := G.play_step k l (A, Z) e he
      obtain ⟨kind, n, Ru⟩ := e
      obtain ⟨hk1, hk2⟩ := hk64
      obtain ⟨hn1, hn2⟩ := hn64
      simp only at q0 q1 q2 rd2 len2 hk1 hk2 hn1 hn2 HPS
      obtain ⟨X, hX⟩ : ∃ X, X = wr.alloc (.cells #[.int .i64 kind, .int .i64 n, .slice sp2 Ru.length cp2] 35) := ⟨_, rfl⟩
      have HX : Hid (X = wr.alloc (.cells #[.int .i64 kind, .int .i64 n, .slice sp2 Ru.length cp2] 35)) := hX
      have HXs : Hid (X.heap.size = wr.heap.size + 1) := by rw [hX]; show _ = _; simp
      have HXb : Hid (Below wr.heap.size wr X) := by rw [hX]; exact (Below.refl _ _).alloc (Nat.le_refl _) _
      have x0 : X.cell? ⟨wr.heap.size, 0, none⟩ = some (.int .i64 kind) := by rw [hX]; exact World.cell?_alloc_at _ _ _ _ (by simp)
      have x1 : X.cell? ⟨wr.heap.size, 1, none⟩ = some (.int .i64 n) := by rw [hX]; exact World.cell?_alloc_at _ _ _ _ (by simp)
      have x2 : X.cell? ⟨wr.heap.size, 2, none⟩ = some (.slice sp2 Ru.length cp2) := by rw [hX]; exact World.cell?_alloc_at _ _ _ _ (by simp)
      have HRu : Hid (L.Rd w (.slice sp2 Ru.length cp2) .i32 Ru) := rd2
      have HC : Hid (∀ W, Below X.heap.size X W → (W.cell? ⟨wr.heap.size, 0, none⟩ = some (.int .i64 kind) ∧ W.cell? ⟨wr.heap.size, 1, none⟩ = some (.int .i64 n) ∧ W.cell? ⟨wr.heap.size, 2, none⟩ = some (.slice sp2 Ru.length cp2)) ∧ L.Rd W (.slice sp2 Ru.length cp2) .i32 Ru ∧ L.Rd W (.slice ta (A.length + Z.length) tc) .i32 (A ++ Z) ∧ Below (w.heap.size + 1) w1 W ∧ W.heap[w.heap.size]? = some (.cells #[.int .i64 0, .int .i64 0] 26 (0, 0))) := fun W hW => by
        have hXs := HXs.out
        have hw0 : Below wr.heap.size wr W := HXb.out.trans (hW.mono (by omega))
        refine ⟨⟨?_, ?_, ?_⟩, HRu.out.below (HBw.out.trans (hw0.mono (by omega))) (Nat.le_refl _), HRt.out.below hw0 (Nat.le_refl _), HBw1.out.trans (hw0.mono (by omega)), (hw0.block _ (by omega)).trans HBL.out⟩
        · rw [hW.cell (p := ⟨wr.heap.size, 0, none⟩) (by show wr.heap.size < _; omega)]; exact x0
        · rw [hW.cell (p := ⟨wr.heap.size, 1, none⟩) (by show wr.heap.size < _; omega)]; exact x1
        · rw [hW.cell (p := ⟨wr.heap.size, 2, none⟩) (by show wr.heap.size < _; omega)]; exact x2
      clear hcell he rd2 hc hX x0 x1 x2
      go_wp2
      rw [← HX.out]
      have hA0 : (0 : Int) ≤ A.length := by omega
      have hA1 : (A.length : Int) ≤ tc := by omega
      have hA2 : (A.length : Int) ≤ (A.length + Z.length : Nat) := by omega
      have HRA : Hid (∀ W, Below X.heap.size X W → L.Rd W (.slice ta A.length tc) .i32 A) := fun W hW => G.rd_take (HC.out W hW).2.2.1
      obtain ⟨tz, htz⟩ : ∃ tz, tz = (if tc = A.length then ta else Option.map (fun x => x.add A.length) ta) := ⟨_, rfl⟩
      obtain ⟨tcz, htcz⟩ : ∃ tcz, tcz = tc - A.length := ⟨_, rfl⟩
      have HRZ : Hid (∀ W, Below X.heap.size X W → L.Rd W (.slice tz Z.length tcz) .i32 Z) := fun W hW => by
        rw [htz, htcz]
        exact G.rd_drop (HC.out W hW).2.2.1 htc
      have hsl : ∀ w', (Instr.slice 22 (.slice ta (A.length + Z.length) tc) (some (.int .i64 (A.length : Int))) none none).run Try.prog w' = .ok (.slice tz Z.length tcz) w' := fun w' => by
        rw [htz, htcz]
        have h := run_slice_l (P := Try.prog) w' 22 ta (A.length + Z.length) tc Try.underlying22 .i64 A.length hA0 hA2
        rw [h]
        go_simp
      clear htz htcz
      go_cut [12, 13] (fun v12 v13 wx => ∃ a1 c1 a2 c2, v12 = .slice a1 A.length c1 ∧ v13 = .slice a2 Z.length c2 ∧ Hid (G.Two X.heap.size X wx (.slice a1 A.length c1) (.slice a2 Z.length c2) A Z))
      case first =>
        go_region_held3 (fun w' => Below X.heap.size X w') (first | exact (Below.refl _ _).drew | exact Below.drew (Below.alloc (by assumption) (Below.size (by assumption)) _) | exact Below.alloc (by assumption) (Below.size (by assumption)) _ | exact N13.1.trans (N13.2.2.mono N13.1.size) | exact N12.1.trans (N12.2.2.mono N12.1.size)) (first | (refine G.step_append_new2 (by rfl) (.tmp 28) (.tmp 31) (by rfl) _ (by rfl) _ (by rfl) A (HRA.out _ (by assumption)) (by omega) X.heap.size X (by assumption) ?_; intro v12 W12 N12) | (refine G.step_append_new2 (by rfl) (.tmp 33) (.tmp 36) (by rfl) _ (by rfl) _ (by rfl) Z (HRZ.out _ (by assumption)) (by omega) X.heap.size X (by assumption) ?_; intro v13 W13 N13))
        all_goals
          obtain ⟨a1, c1, e1, _⟩ := N12.2.1.rd
          obtain ⟨a2, c2, e2, _⟩ := N13.2.1.rd
          subst e1 e2
          have HN : Hid (G.Two X.heap.size X W13 (.slice a1 A.length c1) (.slice a2 Z.length c2) A Z) := G.two_a N12.1 (Nat.le_refl _) N12.2 (by first | exact Below.refl _ _ | exact (Below.refl _ _).alloc (Nat.le_refl _) _) N13.2
          clear N12 N13
          go_wp2_with fail
          go_meet
          case rel => exact ⟨a1, c1, a2, c2, rfl, rfl, HN⟩
      case rest =>
        obtain ⟨a1, c1, a2, c2, rfl, rfl, HN⟩ := hcut
        clear hsl
        obtain ⟨⟨y0, y1, y2⟩, HRx, HRtx, HBx, hblx⟩ := HC.out wc HN.out.2.2.2
        have HRuW : Hid (L.Rd wc (.slice sp2 Ru.length cp2) .i32 Ru) := HRx
        have HRtW : Hid (L.Rd wc (.slice ta (A.length + Z.length) tc) .i32 (A ++ Z)) := HRtx
        have HBW : Hid (Below (w.heap.size + 1) w1 wc) := HBx
        have hsX : X.heap.size ≤ wc.heap.size := HN.out.2.2.2.size
        have hXs := HXs.out
        have HSX : Hid (w.heap.size + 1 ≤ X.heap.size ∧ X.heap.size ≤ wc.heap.size) := ⟨by omega, hsX⟩
        have g0 := frozen_of_row wc _ 0 _ _ hblx
        have g1 := frozen_of_row wc _ 1 _ _ hblx
        have d0 : wc.cell? ⟨w.heap.size, 0, none⟩ = some (.int .i64 0) := by simp [World.cell?, hblx]
        have d1 : wc.cell? ⟨w.heap.size, 1, none⟩ = some (.int .i64 0) := by simp [World.cell?, hblx]
        have HBf : Hid (Below w.heap.size w wc) := HB.out.trans (HBW.out.mono (by omega))
        -- what an error answers
        have HErr : Hid (∀ x : Int, x ≠ 0 → (∃ A' Z', G.step ⟨kind, n, Ru⟩ (A, Z) = (x, A', Z')) → G.Plays w R l (.returned (.tuple #[.slice none 0 0, .int .i64 0, .agg #[.int .i64 x, .int .i64 k]])) ((wc.setCell ⟨w.heap.size, 0, none⟩ (.int .i64 x)).setCell ⟨w.heap.size, 1, none⟩ (.int .i64 k))) := by
          rintro x hx0 ⟨A', Z', hst⟩
          have h1 := HPS.out
          rw [hst] at h1
          simp only [if_neg hx0] at h1
          rw [HP.out] at h1
          refine G.Plays.of (c := 0) ?_ (rd_nil _ _) (G.below_set (G.below_set HBf.out (Nat.le_refl _) _) (Nat.le_refl _) _)
          unfold G.res
          rw [if_neg (by omega), h1]
          simp only [if_neg hx0]
        -- what goes on
        have HOk : Hid (∀ A' Z', G.step ⟨kind, n, Ru⟩ (A, Z) = (0, A', Z') → G.play (k + 1) (l.drop (k + 1)) (A', Z') = G.play 0 l ([], R)) := by
          intro A' Z' hst
          have h1 := HPS.out
          rw [hst] at h1
          simp only [if_true] at h1
          rw [HP.out] at h1
          exact h1.symm
        clear HRx HRtx HBx hsX hXs hblx HPS HRA HRZ hA0 hA1 hA2
        by_cases k1 : kind = 1
        · subst k1
          by_cases hb : n < 0 ∨ (A.length + Z.length : Int) < n
          · have HE : Hid (G.Plays w R l (.returned (.tuple #[.slice none 0 0, .int .i64 0, .agg #[.int .i64 3, .int .i64 k]])) ((wc.setCell ⟨w.heap.size, 0, none⟩ (.int .i64 3)).setCell ⟨w.heap.size, 1, none⟩ (.int .i64 k))) := HErr.out 3 (by decide) ⟨A, Z, by simp only [G.step, if_true]; rw [if_pos hb]⟩
            clear HN HRuW HRtW HBW HC HErr HOk
            by_cases hb0 : n < 0
            all_goals
              go_wp2
              refine bodyPost_ret (v := .tuple #[.slice none 0 0, .int .i64 0, .agg #[.int .i64 3, .int .i64 k]]) (by simp [results, Try.results5, go_sem, *]) rfl ?_
              exact HE.out
          · obtain ⟨kk, rfl⟩ := Int.eq_ofNat_of_zero_le (show 0 ≤ n by omega)
            have HEq : Hid ((((A ++ Z).take kk).length = kk) ∧ (((A ++ Z).take kk).length + ((A ++ Z).drop kk).length = A.length + Z.length) ∧ (A ++ Z).take kk ++ (A ++ Z).drop kk = A ++ Z) := by
              refine ⟨by rw [List.length_take, List.length_append]; omega, by rw [List.length_take, List.length_drop, List.length_append]; omega, List.take_append_drop _ _⟩
            have HPn := HOk.out ((A ++ Z).take kk) ((A ++ Z).drop kk) (by simp only [G.step, if_true]; rw [if_neg hb]; rfl)
            have HPn' : Hid _ := HPn
            generalize (A ++ Z).take kk = A' at *
            generalize (A ++ Z).drop kk = Z' at *
            have hb0 : ¬ (kk : Int) < 0 := by omega
            have hb1 : ¬ (A.length + Z.length : Int) < kk := by omega
            clear HPn HC HErr HOk HN
            go_wp2
            go_roundw
            case rel => exact ⟨k + 1, A', Z', ta, tc, by omega, by go_num, by rw [HEq.out.1], by rw [HEq.out.2.1], by rw [HEq.out.2.1]; omega, by rw [HEq.out.2.1]; omega, by show L.Rd _ _ _ _; rw [HEq.out.2.1, HEq.out.2.2]; exact HRtW.out, HBW, by rw [HEq.out.2.2]; exact HFt, HPn'⟩
            case measure => simp [intOf]; omega
        · by_cases k2 : kind = 2
          · subst k2
            by_cases hb : 4000 < A.length + Z.length + Ru.length
            · have hb' : (4000 : Int) < A.length + Z.length + Ru.length := by omega
              have HE : Hid (G.Plays w R l (.returned (.tuple #[.slice none 0 0, .int .i64 0, .agg #[.int .i64 4, .int .i64 k]])) ((wc.setCell ⟨w.heap.size, 0, none⟩ (.int .i64 4)).setCell ⟨w.heap.size, 1, none⟩ (.int .i64 k))) := HErr.out 4 (by decide) ⟨A, Z, by simp only [G.step]; rw [if_neg (by decide), if_pos trivial, if_pos hb']⟩
              clear HN HRuW HRtW HBW HC HErr HOk
              go_wp2
              refine bodyPost_ret (v := .tuple #[.slice none 0 0, .int .i64 0, .agg #[.int .i64 4, .int .i64 k]]) (by simp [results, Try.results5, go_sem, *]) rfl ?_
              exact HE.out
            · obtain ⟨v14, W4, hr4, ha4, r4, hg4, hk4⟩ := G.app_run wc X.heap.size (.slice a1 A.length c1) (.slice sp2 Ru.length cp2) A Ru HN.out.1 HRuW.out (by omega) HSX.out.2
              have hs4 : X.heap.size ≤ W4.heap.size := by have := hg4.size; have := HSX.out.2; omega
              obtain ⟨v15, W5, hr5, ha5, r5, hg5, hk5⟩ := G.app_run W4 X.heap.size v14 (.slice a2 Z.length c2) (A ++ Ru) Z ha4 (G.rd_grown HN.out.2.1.rd hg4 fun hz q e => HN.out.2.2.1 (hk4 q e).1 hz q (hk4 q e).2.1) (by rw [List.length_append]; omega) hs4
              have HB5 : Hid (Below X.heap.size X W5) := (HN.out.2.2.2.grown hg4 HSX.out.2 fun q e => (hk4 q e).2.2).grown hg5 hs4 fun q e => (hk5 q e).2.2
              obtain ⟨t5, c5, e5, _⟩ := ha5.rd
              have hc5 := ha5.cap _ _ _ e5
              have HLen : Hid ((A ++ Ru ++ Z).length = (A ++ Ru).length + Z.length ∧ (A ++ Ru).length = A.length + Ru.length) := ⟨List.length_append, List.length_append⟩
              have HR5 : Hid (L.Rd W5 v15 .i32 (A ++ Ru ++ Z)) := ha5.rd
              have HF5 : Hid (A ++ Ru ++ Z ≠ [] → ∀ ad, t5 = some ad → w.heap.size < ad.block) := (show G.App W5 X.heap.size (.slice t5 _ c5) _ from e5 ▸ ha5).far (by have := HSX.out.1; omega)
              subst e5
              rw [HLen.out.1] at hr5 hc5 HR5
              obtain ⟨⟨z0, z1, z2⟩, _, _, HBx5, _⟩ := HC.out W5 HB5.out
              have HBW5 : Hid (Below (w.heap.size + 1) w1 W5) := HBx5
              have HPn : Hid _ := HOk.out (A ++ Ru) Z (by simp only [G.step]; rw [if_neg (by decide), if_pos trivial, if_neg (by omega)])
              have hb1 : ¬ (4000 : Int) < A.length + Z.length + Ru.length := by omega
              clear ha4 hg4 hk4 ha5 hg5 hk5 HC HErr HOk HN HBx5 HRuW HRtW HBW HB5
              go_wp2_with (at_builtin; first | refine Lib.wpList_append_run _ rfl _ _ _ _ rfl _ _ rfl rfl _ _ (hr4 _) ?_ | refine Lib.wpList_append_run _ rfl _ _ _ _ rfl _ _ rfl rfl _ _ (hr5 _) ?_)
              go_roundw
              case rel => exact ⟨k + 1, A ++ Ru, Z, t5, c5, by omega, by go_num, by rw [HLen.out.2]; go_num, by rw [HLen.out.2], hc5, by rw [HLen.out.2]; omega, HR5, HBW5, HF5, HPn⟩
              case measure => simp [intOf]; omega
          · by_cases k3 : kind = 3
            · subst k3
              by_cases hb : n < 0 ∨ (Z.length : Int) < n
              · have HE : Hid (G.Plays w R l (.returned (.tuple #[.slice none 0 0, .int .i64 0, .agg #[.int .i64 3, .int .i64 k]])) ((wc.setCell ⟨w.heap.size, 0, none⟩ (.int .i64 3)).setCell ⟨w.heap.size, 1, none⟩ (.int .i64 k))) := HErr.out 3 (by decide) ⟨A, Z, by simp only [G.step]; rw [if_neg (by decide), if_neg (by decide), if_pos trivial, if_pos hb]⟩
                clear HN HRuW HRtW HBW HC HErr HOk
                by_cases hb0 : n < 0
                all_goals
                  go_wp2
                  refine bodyPost_ret (v := .tuple #[.slice none 0 0, .int .i64 0, .agg #[.int .i64 3, .int .i64 k]]) (by simp [results, Try.results5, go_sem, *]) rfl ?_
                  exact HE.out
              · obtain ⟨kk, rfl⟩ := Int.eq_ofNat_of_zero_le (show 0 ≤ n by omega)
                have hle2 := HN.out.2.1.cap _ _ _ rfl
                have hkz : (Z.take kk).length = kk := by rw [List.length_take]; omega
                have HLz : Hid ((Z.take kk).length + (Z.drop kk).length = Z.length) := by show _ = _; rw [List.length_take, List.length_drop]; omega
                obtain ⟨dz, hdz⟩ : ∃ dz, dz = (if c2 = kk then a2 else Option.map (fun x => x.add kk) a2) := ⟨_, rfl⟩
                have HRD : Hid (L.Rd wc (.slice dz (Z.drop kk).length (c2 - kk)) .i32 (Z.drop kk)) := by
                  have h0 : L.Rd wc (.slice a2 ((Z.take kk).length + (Z.drop kk).length) c2) .i32 (Z.take kk ++ Z.drop kk) := by rw [HLz.out, List.take_append_drop]; exact HN.out.2.1.rd
                  have h := G.rd_drop h0 (by rw [HLz.out]; exact hle2)
                  rw [hkz, ← hdz] at h
                  exact h
                have hb0 : ¬ (kk : Int) < 0 := by omega
                have hb1 : ¬ (Z.length : Int) < kk := by omega
                have hb2 : (0 : Int) ≤ kk := by omega
                have hb3 : (kk : Int) ≤ Z.length := by omega
                have hsl : ∀ w', (Instr.slice 22 (.slice a2 Z.length c2) (some (.int .i64 (kk : Int))) none none).run Try.prog w' = .ok (.slice dz (Z.drop kk).length (c2 - kk)) w' := fun w' => by
                  have h := run_slice_l (P := Try.prog) w' 22 a2 Z.length c2 Try.underlying22 .i64 kk hb2 hb3
                  rw [h, hdz, List.length_drop]
                  go_simp
                obtain ⟨v15, W5, hr5, ha5, r5, hg5, hk5⟩ := G.app_run wc X.heap.size (.slice a1 A.length c1) (.slice dz (Z.drop kk).length (c2 - kk)) A (Z.drop kk) HN.out.1 HRD.out (by rw [List.length_drop]; omega) HSX.out.2
                have HB5 : Hid (Below X.heap.size X W5) := HN.out.2.2.2.grown hg5 HSX.out.2 fun q e => (hk5 q e).2.2
                obtain ⟨t5, c5, e5, _⟩ := ha5.rd
                have hc5 := ha5.cap _ _ _ e5
                have HLen : Hid ((A ++ Z.drop kk).length = A.length + (Z.drop kk).length ∧ (Z.drop kk).length ≤ Z.length) := ⟨List.length_append, by rw [List.length_drop]; omega⟩
                have HR5 : Hid (L.Rd W5 v15 .i32 (A ++ Z.drop kk)) := ha5.rd
                have HF5 : Hid (A ++ Z.drop kk ≠ [] → ∀ ad, t5 = some ad → w.heap.size < ad.block) := (show G.App W5 X.heap.size (.slice t5 _ c5) _ from e5 ▸ ha5).far (by have := HSX.out.1; omega)
                subst e5
                rw [HLen.out.1] at hr5 hc5 HR5
                have HBW5 : Hid (Below (w.heap.size + 1) w1 W5) := (HC.out W5 HB5.out).2.2.2.1
                have HPn := HOk.out A (Z.drop kk) (by simp only [G.step]; rw [if_neg (by decide), if_neg (by decide), if_pos trivial, if_neg hb]; rfl)
                have HPn' : Hid _ := HPn
                generalize Z.drop kk = Z' at *
                clear HPn ha5 hg5 hk5 HC HErr HOk HN HRuW HRtW HBW HB5 HRD hdz
                go_wp2_with (at_builtin; refine Lib.wpList_append_run _ rfl _ _ _ _ rfl _ _ rfl rfl _ _ (hr5 _) ?_)
                go_roundw
                case rel => exact ⟨k + 1, A, Z', t5, c5, by omega, by go_num, rfl, rfl, hc5, by have := HLen.out.2; omega, HR5, HBW5, HF5, HPn'⟩
                case measure => simp [intOf]; omega
            · by_cases k4 : kind = 4
              · subst k4
                by_cases hb : n < 0 ∨ (A.length : Int) < n
                · have HE : Hid (G.Plays w R l (.returned (.tuple #[.slice none 0 0, .int .i64 0, .agg #[.int .i64 3, .int .i64 k]])) ((wc.setCell ⟨w.heap.size, 0, none⟩ (.int .i64 3)).setCell ⟨w.heap.size, 1, none⟩ (.int .i64 k))) := HErr.out 3 (by decide) ⟨A, Z, by simp only [G.step]; rw [if_neg (by decide), if_neg (by decide), if_neg (by decide), if_pos trivial, if_pos hb]⟩
                  clear HN HRuW HRtW HBW HC HErr HOk
                  by_cases hb0 : n < 0
                  all_goals
                    go_wp2
                    refine bodyPost_ret (v := .tuple #[.slice none 0 0, .int .i64 0, .agg #[.int .i64 3, .int .i64 k]]) (by simp [results, Try.results5, go_sem, *]) rfl ?_
                    exact HE.out
                · obtain ⟨kk, rfl⟩ := Int.eq_ofNat_of_zero_le (show 0 ≤ n by omega)
                  have hle1 := HN.out.1.cap _ _ _ rfl
                  obtain ⟨m, hm⟩ : ∃ m : Nat, m = A.length - kk := ⟨_, rfl⟩
                  have HPn := HOk.out (A.take m) Z (by rw [hm]; simp only [G.step]; rw [if_neg (by decide), if_neg (by decide), if_neg (by decide), if_pos trivial, if_neg hb]; rfl)
                  have HPn' : Hid _ := HPn
                  have e4 : (A.length : Int) - kk = m := by omega
                  have hmA : m ≤ A.length := by omega
                  have HLA : Hid ((A.take m).length = m) := by show _ = _; rw [List.length_take]; omega
                  have hb0 : ¬ (kk : Int) < 0 := by omega
                  have hb1 : ¬ (A.length : Int) < kk := by omega
                  have hb2 : (0 : Int) ≤ m := by omega
                  have hb3 : (m : Int) ≤ c1 := by omega
                  have hsl : ∀ w', (Instr.slice 22 (.slice a1 A.length c1) none (some (.int .i64 (m : Int))) (some (.int .i64 (m : Int)))).run Try.prog w' = .ok (.slice a1 m m) w' := fun w' => by
                    have h := run_slice_hm (P := Try.prog) w' 22 a1 A.length c1 Try.underlying22 .i64 .i64 m m hb2 (Int.le_refl _) hb3
                    rw [h]
                    go_simp
                  have HAT : Hid (G.App wc X.heap.size (.slice a1 m m) (A.take m)) := by
                    have h := G.app_take HN.out.1 m hmA
                    exact h
                  obtain ⟨v15, W5, hr5, ha5, r5, hg5, hk5⟩ := G.app_run wc X.heap.size (.slice a1 m m) (.slice a2 Z.length c2) (A.take m) Z HAT.out HN.out.2.1.rd (by rw [HLA.out]; omega) HSX.out.2
                  have HB5 : Hid (Below X.heap.size X W5) := HN.out.2.2.2.grown hg5 HSX.out.2 fun q e => (hk5 q e).2.2
                  obtain ⟨t5, c5, e5, _⟩ := ha5.rd
                  have hc5 := ha5.cap _ _ _ e5
                  have HLen : Hid ((A.take m ++ Z).length = (A.take m).length + Z.length) := List.length_append
                  have HR5 : Hid (L.Rd W5 v15 .i32 (A.take m ++ Z)) := ha5.rd
                  have HF5 : Hid (A.take m ++ Z ≠ [] → ∀ ad, t5 = some ad → w.heap.size < ad.block) := (show G.App W5 X.heap.size (.slice t5 _ c5) _ from e5 ▸ ha5).far (by have := HSX.out.1; omega)
                  subst e5
                  rw [HLen.out] at hr5 hc5 HR5
                  have HBW5 : Hid (Below (w.heap.size + 1) w1 W5) := (HC.out W5 HB5.out).2.2.2.1
                  generalize A.take m = A' at *
                  clear HPn ha5 hg5 hk5 HC HErr HOk HN HRuW HRtW HBW HB5 HAT hm
                  go_wp2_with (at_builtin; refine Lib.wpList_append_run _ rfl _ _ _ _ rfl _ _ rfl rfl _ _ (hr5 _) ?_)
                  go_roundw
                  case rel => exact ⟨k + 1, A', Z, t5, c5, by omega, by go_num, by rw [HLA.out], rfl, hc5, by have := HLA.out; omega, HR5, HBW5, HF5, HPn'⟩
                  case measure => simp [intOf]; omega
              · have HE : Hid (G.Plays w R l (.returned (.tuple #[.slice none 0 0, .int .i64 0, .agg #[.int .i64 1, .int .i64 k]])) ((wc.setCell ⟨w.heap.size, 0, none⟩ (.int .i64 1)).setCell ⟨w.heap.size, 1, none⟩ (.int .i64 k))) := HErr.out 1 (by decide) ⟨A, Z, by simp only [G.step]; rw [if_neg k1, if_neg k2, if_neg k3, if_neg k4]⟩
                clear HN HRuW HRtW HBW HC HErr HOk
                go_wp2
                refine bodyPost_ret (v := .tuple #[.slice none 0 0, .int .i64 0, .agg #[.int .i64 1, .int .i64 k]]) (by simp [results, Try.results5, go_sem, *]) rfl ?_
                exact HE.out
    · have HPe : Hid (G.res R l = ((0, 0), A ++ Z, A.length)) := by
        have h1 := HP.out
        rw [G.play_end k l (A, Z) (by omega)] at h1
        show _ = _
        unfold G.res
        rw [if_neg (by omega), ← h1]
        rfl
      have hbl3 := HBL.out
      have g0 := frozen_of_row wr _ 0 _ _ hbl3
      have g1 := frozen_of_row wr _ 1 _ _ hbl3
      have d0 : wr.cell? ⟨w.heap.size, 0, none⟩ = some (.int .i64 0) := by simp [World.cell?, hbl3]
      have d1 : wr.cell? ⟨w.heap.size, 1, none⟩ = some (.int .i64 0) := by simp [World.cell?, hbl3]
      clear hbl3 hc
      go_wp2
      refine bodyPost_ret (v := .tuple #[.slice ta (A.length + Z.length) tc, .int .i64 A.length, .agg #[.int .i64 0, .int .i64 0]]) (by simp [results, Try.results5, go_sem, *]) rfl ?_
      refine G.Plays.of (k := 0) HPe.out ?_ (G.below_set (G.below_set HBw.out (Nat.le_refl _) _) (Nat.le_refl _) _)
      exact G.rd_set (G.rd_set (HRt.out) HFt.out) HFt.out

end Go.Proofs.Ytcphiemfjdbhfaa
