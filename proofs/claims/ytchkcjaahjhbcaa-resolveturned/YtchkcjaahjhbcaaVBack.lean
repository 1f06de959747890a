/-
  Back.
-/
import Derived.Test.YtchkcjaahjhbcaaVForth
import Derived.Test.YtchkcjaahjhbcaaVTurned
import Derived.Test.YtchkcjaahjhbcaaVRev
namespace Go.Proofs.Ytchkcjaahjhbcaa
open Go.RowKit Go.Lib
set_option maxRecDepth 20000
set_option linter.unusedSimpArgs false
set_option linter.unusedVariables false

set_option maxHeartbeats 1000000 in
theorem pclone_none (w : World) (ao : Option Addr) (cap : Nat) :
    Calls Try.prog 62 #[.slice ao 0 cap] w fun e w' => ∃ ao' cap', e = .returned (.slice ao' 0 cap') ∧ Below w.heap.size w w' := by
  obtain ⟨i0, hi, hz0, hz1, hz2⟩ := info_parts Try.vinfoPt
  have q22 : ∀ (w : World) (a : Option Addr) (n c n' c' : Nat), (binOp .eql 39 (.slice a n c) (.slice none n' c')).run Try.prog w = .ok (.bool a.isNone) w := fun w a n c n' c' => Lib.run_eql_slice_nil w _ _ a n c n' c' Try.underlying39
  cases ao with
  | none =>
    go_enter Try.func62, Try.ntmps62
    go_wp2
    go_ret
    exact ⟨_, _, rfl, Below.refl _ _⟩
  | some ad =>
    have OW : Hid ((w.alloc (.cells #[] 53)).ownsRow w.heap.size 53 16 (.slice (some ⟨w.heap.size, 0, none⟩) 0 0) 0 []) := World.ownsRow_made w #[] 0 (Nat.le_refl _) (Nat.zero_le _) (by simp)
    go_enter Try.func62, Try.ntmps62
    go_wp2_with (at_builtin; go_must (refine wpList_append_own _ rfl _ _ 39 rfl w.heap.size 53 i0 _ 16 232 Try.underlying39 hi hz0 hz1 hz2 rfl (by decide) _ _ _ rfl OW.out ad 0 cap [] rfl rfl (fun j u hj => by simp at hj) (fun u hu => by simp at hu) (by unfold maxLen; omega) (by omega) (by simp) ?_; intro v' w3 hown' hgrow3 hnil3))
    go_ret
    have hb := ((Below.refl _ w).alloc (Nat.le_refl _) (.cells #[] 53)).grown hgrow3 (by simp) (fun k hk => (OW.out.lt k hk).1)
    rcases hown'.2 with ⟨h1, _⟩ | ⟨g, cap', cur, hv, _⟩
    · exact ⟨⟨none, 0, by rw [h1]; rfl⟩, hb⟩
    · exact ⟨⟨some ⟨g, 0, none⟩, cap', by rw [hv]; rfl⟩, hb⟩

set_option maxHeartbeats 1000000 in
theorem turned_none (w : World) (ao : Option Addr) (cap : Nat) :
    Calls Try.prog 42 #[.slice ao 0 cap] w fun e w' => ∃ ao' cap', e = .returned (.slice ao' 0 cap') ∧ Below w.heap.size w w' := by
  have H := pclone_none w ao cap
  go_enter Try.func42, Try.ntmps42
  go_wp2_with fail
  refine H.mono ?_
  rintro e w1 ⟨ao', cap', rfl, b1⟩
  clear H
  go_wp2
  go_loopw [10] (fun i wr => i = .int .i64 0 ∧ wr = w1) (fun i _ => 0)
  case atStart => exact ⟨rfl, rfl⟩
  case round =>
    obtain ⟨rfl, rfl⟩ := hrel
    go_wp2
    go_ret
    exact ⟨_, _, rfl, b1⟩

theorem turned_any (w : World) (v : Value) (l : List R.Part) (R0 : R.Pts w v l) (hl : l.length ≤ 1000) :
    Calls Try.prog 42 #[v] w fun e w' => ∃ v', e = .returned v' ∧ R.Pts w' v' (l.map V.turn) ∧ Below w.heap.size w w' := by
  cases l with
  | nil =>
    obtain ⟨ao, cap, rfl, _⟩ := R0
    exact (turned_none w ao cap).mono fun e w' ⟨ao', cap', h1, h2⟩ => ⟨_, h1, ⟨ao', cap', rfl, fun h => absurd rfl h⟩, h2⟩
  | cons p l =>
    obtain ⟨ao, cap, e, hc⟩ := R0
    obtain ⟨b, off, rfl, _⟩ := hc (by simp)
    subst e
    exact turned_some w b off cap (p :: l) ⟨_, _, rfl, hc⟩ hl (by simp)

namespace V
theorem turn_ok {g : ByteArray → List S.Sp} (hg : ∀ s, S.Fit (g s)) {p : R.Part} (h : R.partE p = 0) : PartOk g (turn p) := by
  by_cases h4 : p.kind = 4
  · have e : turn p = { p with name := opp p.name } := by unfold turn; rw [if_pos h4]
    rw [e]
    exact ⟨fun (k : p.kind = 3) => by omega, fun _ => opp_size _, fun (k : p.kind = 2) => by omega⟩
  · by_cases h2 : p.kind = 2
    · have e : turn p = { p with left := p.right, dir := against p.dir, right := p.left } := by unfold turn; rw [if_neg h4, if_pos h2]
      rw [e]
      rcases R.partE_cases h with ⟨k1, _⟩ | ⟨k1, _⟩ | ⟨k1, _⟩ | ⟨_, k2⟩
      · omega
      · omega
      · omega
      obtain ⟨_, hl, hr, _⟩ := R.ruleE_zero k2
      obtain ⟨a1, a2, a3, _⟩ := R.sideE_zero hl
      obtain ⟨b1, b2, b3, _⟩ := R.sideE_zero hr
      have r1 := right_of b1
      have r2 := right_of b2
      have r3 := right_of b3
      exact ⟨fun (k : p.kind = 3) => by omega, fun (k : p.kind = 4) => by omega, fun _ _ => ⟨⟨r1, r2, r3⟩, right_of a2, fun x hx => by
        rcases hx with hx | hx | hx
        · exact fit_of hg (r1.2 x hx)
        · exact fit_of hg (r2.2 x hx)
        · exact fit_of hg (r3.2 x hx)⟩⟩
    · have e : turn p = p := by unfold turn; rw [if_neg h4, if_neg h2]
      rw [e]; exact part_ok hg h
/-- which cells the passes are -/
def PCells (f : Nat → PC) (ps : List Pass) (rvs : List Value) : Prop := ∀ (t : Nat) p rv, ps[t]? = some p → rvs[t]? = some rv → (f t).1 = p.name ∧ rv = .slice (f t).2.1 (f t).2.2.1 (f t).2.2.2
theorem PS.prow {F : Nat} {tops : List Nat} {w : World} {g n cap : Nat} {ps : List Pass} {rvs : List Value} (h : PS F tops w (.slice (some ⟨g, 0, none⟩) n cap) ps rvs) : n = ps.length ∧ F ≤ g ∧ g < w.heap.size ∧ g ∈ tops ∧ ∃ f, PCells f ps rvs ∧ PRow w g f n := by
  have hf : ∀ t : Nat, ∃ x : PC, ∀ (p : Pass) (rv : Value), ps[t]? = some p → rvs[t]? = some rv → x.1 = p.name ∧ rv = .slice x.2.1 x.2.2.1 x.2.2.2 := fun t => by
    cases hp : ps[t]? with
    | none => exact ⟨(⟨#[]⟩, none, 0, 0), fun p rv h => by cases h⟩
    | some p =>
      cases hr : rvs[t]? with
      | none => exact ⟨(⟨#[]⟩, none, 0, 0), fun p rv _ h => by cases h⟩
      | some rv =>
        obtain ⟨⟨cs, own, _⟩, _⟩ := h.rows t p rv hp hr
        rcases own.2 with ⟨e, _⟩ | ⟨g', cap', cur', e, _⟩
        · exact ⟨(p.name, none, 0, 0), fun p' rv' h1 h2 => by cases h1; cases h2; exact ⟨rfl, e⟩⟩
        · exact ⟨(p.name, _, _, _), fun p' rv' h1 h2 => by cases h1; cases h2; exact ⟨rfl, e⟩⟩
  obtain ⟨f, hf⟩ := Classical.skolem.1 hf
  have hlt := h.own.lt g rfl
  rcases h.own.2 with ⟨e, _⟩ | ⟨g', cap', cur, e, hB, hg, hle, hmax, hsz, htk⟩
  · cases e
  · obtain ⟨e1, e2, e3⟩ := Value.slice.inj e
    cases e1
    subst e2
    refine ⟨rfl, hlt.1, hlt.2, h.top g (.inl rfl), f, hf, cur, hg, fun t ht => ?_⟩
    have hr : t < rvs.length := by rw [h.len]; exact ht
    obtain ⟨a1, a2⟩ := pcells_at (ps := ps) (rvs := rvs) (j := t) (p := ps[t]) (rv := rvs[t]) (by simp) (by simp)
    obtain ⟨f1, f2⟩ := hf t ps[t] rvs[t] (by simp) (by simp)
    rw [← htk, List.getElem?_take] at a1 a2
    split at a1
    · split at a2
      · rw [← f1] at a1
        rw [f2] at a2
        exact ⟨by simpa using a1, by simpa using a2⟩
      · cases a2
    · cases a1
theorem PRow.other {w W : World} {g : Nat} {f : Nat → PC} {n : Nat} (h : PRow w g f n) (he : W.heap[g]? = w.heap[g]?) : PRow W g f n := by
  obtain ⟨cur, hg, hc⟩ := h
  exact ⟨cur, he.trans hg, hc⟩
/-- a script turned round, in the result's boxes -/
theorem doneB {F : Nat} {tops : List Nat} {w W : World} {vo : Value} {g n cap : Nat} {s : Script} {rvs : List Value} {f : Nat → PC} (hL : Leaf tops w fun W => S.Rd W vo s.only) (hn : s.only.length ≤ 17592186044160) (hP : PS F tops w (.slice (some ⟨g, 0, none⟩) n cap) s.passes rvs) (hl : s.passes.length ≤ 1000) (hr : ∀ p ∈ s.passes, p.rules.length ≤ 1000) (hf : PCells f s.passes rvs)
    (hs : w.heap.size ≤ W.heap.size) (hk : ∀ b, b < w.heap.size → b ∉ tops → W.heap[b]? = w.heap[b]?) (hkr : ∀ b, F ≤ b → b < w.heap.size → ¬ b = g → W.heap[b]? = w.heap[b]?) (hrow : PRow W g (fun t => f (n - 1 - t)) n) :
    ScIs W (.agg #[.bool s.has, vo, .slice (some ⟨g, 0, none⟩) n cap]) ⟨s.has, s.only, s.passes.reverse⟩ := by
  have h1 : S.Rd W vo s.only := hL W hs hk
  obtain ⟨oo, oc, rfl⟩ := rd_form h1
  obtain ⟨hnl, _, _, _, _⟩ := hP.prow
  refine ⟨oo, oc, some ⟨g, 0, none⟩, cap, by rw [hnl]; simp, h1, by show s.only.length ≤ _; omega, some ⟨g, 0, none⟩, cap, rfl, by simp; omega, fun _ => ⟨g, 0, rfl, fun j p hj => ?_⟩⟩
  have hjn : j < s.passes.length := by have := (List.getElem?_eq_some_iff.1 hj).1; simpa using this
  have hp : s.passes[n - 1 - j]? = some p := by
    rw [List.getElem?_reverse hjn] at hj
    rw [hnl]; exact hj
  have hlt : n - 1 - j < rvs.length := by rw [hP.len]; omega
  obtain ⟨f1, f2⟩ := hf (n - 1 - j) p rvs[n - 1 - j] hp (by simp)
  obtain ⟨hrw, hnm⟩ := hP.rows (n - 1 - j) p rvs[n - 1 - j] hp (by simp)
  have hrw2 : RuRow F tops W rvs[n - 1 - j] p.rules := hrw.step hs hk (fun k hk => .inl hk) fun k hk => by
    have hm : rvs[n - 1 - j] ∈ rvs := List.getElem_mem _
    have h3 := hP.rvlt hm k hk
    exact hkr k h3.1 h3.2 fun e => hP.apart _ hm k hk (by rw [e]; rfl)
  have hrus := hrw2.rus (hr p (List.mem_of_getElem? hp))
  obtain ⟨c1, c2⟩ := hrow.at (t := j) (by omega)
  obtain ⟨ro, rc, hrc⟩ := hrus.len
  refine ⟨by rw [f1] at c1; simpa using c1, hnm, ro, rc, ?_, by rw [← hrc]; exact hrus⟩
  rw [← f2, hrc] at c2
  simpa using c2
theorem five_heap (w5 : World) (a b : Nat) (v0 v1 v2 v3 v4 : Value) (k : Nat) (ha : ¬ k = a) (hb : ¬ k = b) : (((((w5.setCell ⟨a, 0, none⟩ v0).setCell ⟨a, 1, none⟩ v1).setCell ⟨a, 2, none⟩ v2).setCell ⟨b, 0, none⟩ v3).setCell ⟨b, 1, none⟩ v4).heap[k]? = w5.heap[k]? := by
  rw [heap_setCell_other _ ⟨b, 1, none⟩ k _ hb, heap_setCell_other _ ⟨b, 0, none⟩ k _ hb, heap_setCell_other _ ⟨a, 2, none⟩ k _ ha, heap_setCell_other _ ⟨a, 1, none⟩ k _ ha, heap_setCell_other _ ⟨a, 0, none⟩ k _ ha]
theorem five_size (w5 : World) (a b : Nat) (v0 v1 v2 v3 v4 : Value) : (((((w5.setCell ⟨a, 0, none⟩ v0).setCell ⟨a, 1, none⟩ v1).setCell ⟨a, 2, none⟩ v2).setCell ⟨b, 0, none⟩ v3).setCell ⟨b, 1, none⟩ v4).heap.size = w5.heap.size := by simp
end V

set_option maxHeartbeats 8000000 in
theorem back_ok (w : World) (v : Value) (l : List R.Part) (R0 : R.Pts w v l) (hg : (V.varsF l).1.1 = 0) :
    Calls Try.prog 19 #[v] w fun e w' => ∃ v', e = .returned (.tuple #[v', .agg #[.int .i64 0, .int .i64 0]]) ∧ V.ScIs w' v' ⟨(V.scr (V.gOf (V.varsF l).2) (l.map V.turn)).has, (V.scr (V.gOf (V.varsF l).2) (l.map V.turn)).only, (V.scr (V.gOf (V.varsF l).2) (l.map V.turn)).passes.reverse⟩ ∧ Below w.heap.size w w' := by
  obtain ⟨hlen, hE⟩ := V.vars_ok hg
  have HA : Hid (∀ o1 o2, Below w.heap.size w ((w.alloc o1).alloc o2)) := fun o1 o2 => ((Below.refl _ w).alloc (Nat.le_refl _) o1).alloc (by simp) o2
  have HC : Hid (∀ o1 o2, Calls Try.prog 35 #[v] ((w.alloc o1).alloc o2) fun e w' => (∃ B, e = .returned (.tuple #[.map (some B), .agg #[.int .i64 0, .int .i64 0]]) ∧ V.VarsIs w' B (V.varsF l).2) ∧ Below ((w.alloc o1).alloc o2).heap.size ((w.alloc o1).alloc o2) w') := fun o1 o2 =>
    (variables_any _ _ l (R0.below (HA.out _ _))).mono fun e w' ⟨h1, h2⟩ => ⟨h1.elim (fun h => h.2) fun h => absurd hg h.1, h2⟩
  have HR : Hid (R.Pts w v l) := R0
  obtain ⟨ao, cap, rfl⟩ := R0.len
  obtain ⟨kn, hk⟩ : ∃ o, (V.varsF l).2 = o := ⟨_, rfl⟩
  rw [hk] at HC ⊢
  have HE : Hid (∀ p ∈ l, R.partE p = 0) := hE
  obtain ⟨s, hs⟩ : ∃ s, V.scr (V.gOf kn) (l.map V.turn) = s := ⟨_, rfl⟩
  have HSm : Hid (s.passes.length ≤ 1000 ∧ ∀ p ∈ s.passes, p.rules.length ≤ 1000) := by
    have h := V.scr_small (V.gOf kn) (l.map V.turn) (l.map V.turn).length (Nat.le_refl _)
    rw [List.take_length, hs] at h
    simp only [List.length_map] at h
    exact ⟨by have := h.1; omega, fun p hp => by have := h.2 p hp; omega⟩
  rw [hs]
  have HSE : Hid (V.scr (V.gOf kn) (l.map V.turn) = s) := hs
  clear hk R0 hg hE hs
  go_enter Try.func19, Try.ntmps19
  go_wp2_with fail
  refine (HC.out _ _).mono ?_
  rintro e w1 ⟨⟨B, rfl, n, f, hM, hT⟩, b1⟩
  obtain ⟨h1, h2, B1, s1⟩ := K.two_boxes b1
  obtain ⟨w2, hw2⟩ : ∃ w2, w2 = w1.alloc (.cells #[.int .i64 0, .int .i64 0] 26) := ⟨_, rfl⟩
  have bb : Below w1.heap.size w1 w2 := by rw [hw2]; exact (Below.refl _ w1).alloc (Nat.le_refl _) _
  have hB2 : Below w.heap.size w w2 := B1.trans (bb.mono (by omega))
  have hs2 : w.heap.size + 2 < w2.heap.size := by rw [hw2]; simp; omega
  have x2 := (bb.block _ (by omega)).trans h1
  have y2 := (bb.block _ (by omega)).trans h2
  have HX : Hid (w2.heap[w.heap.size]? = some (.cells #[.bool false, .slice none 0 0, .slice none 0 0] 43) ∧ w2.heap[w.heap.size + 1]? = some (.cells #[.int .i64 0, .int .i64 0] 26)) := ⟨x2, y2⟩
  have hT2 := hT.below bb (Nat.le_refl _)
  have HT2 : Hid (V.Tells w2 f kn) := hT2
  have HM2 : Hid (V.MapIs w2 B n f) := hM.below bb hM.lt
  have hgf : ∀ s, S.Fit (V.gOf kn s) := fun s => (hT s).2.2.2
  have HGF : Hid (∀ s, S.Fit (V.gOf kn s)) := hgf
  have HTu : Hid (Calls Try.prog 42 #[.slice ao l.length cap] (w1.alloc (.cells #[.int .i64 0, .int .i64 0] 26)) fun e w' => ∃ v', e = .returned v' ∧ R.Pts w' v' (l.map V.turn) ∧ Below w2.heap.size w2 w') := by
    rw [← hw2]
    exact turned_any w2 _ l (HR.out.below hB2) (by omega)
  have HB2 : Hid (Below w.heap.size w w2) := hB2
  clear hM hT b1 h1 h2 B1 bb hB2 x2 y2 hT2 hgf HC HR HA hw2
  go_wp2_with fail
  refine HTu.out.mono ?_
  rintro e w2' ⟨v', rfl, hv', b2'⟩
  have HS : Hid (Calls Try.prog 36 #[v', .map (some B)] w2' fun e w' => ∃ tops vo vp rvs, e = .returned (.agg #[.bool (V.scr (V.gOf kn) (l.map V.turn)).has, vo, vp]) ∧ V.Leaf tops w' (fun W => S.Rd W vo (V.scr (V.gOf kn) (l.map V.turn)).only) ∧ (V.scr (V.gOf kn) (l.map V.turn)).only.length ≤ 17592186044160 ∧ V.PS (w2'.heap.size + 2) tops w' vp (V.scr (V.gOf kn) (l.map V.turn)).passes rvs ∧ ((V.scr (V.gOf kn) (l.map V.turn)).passes = [] → vp = .slice none 0 0) ∧ (∀ q, q ≤ w2'.heap.size → q ∈ tops) ∧ Below w2'.heap.size w2' w') :=
    script_any w2' _ (l.map V.turn) hv' (by simp; omega) B n f (V.gOf kn) (HM2.out.below b2' HM2.out.lt) (fun s => ⟨((HT2.out.below b2' (Nat.le_refl _)) s).2.1, by have := (HT2.out s).2.2.1; unfold V.gOf; omega⟩) (fun p hp => by obtain ⟨q, hq, rfl⟩ := List.mem_map.1 hp; exact V.turn_ok HGF.out (HE.out q hq)) (fun k hk => V.scr_small _ (l.map V.turn) k hk)
  rw [HSE.out] at HS
  have hb2s := b2'.size
  have HX2 : Hid (w2'.heap[w.heap.size]? = some (.cells #[.bool false, .slice none 0 0, .slice none 0 0] 43) ∧ w2'.heap[w.heap.size + 1]? = some (.cells #[.int .i64 0, .int .i64 0] 26)) := ⟨(b2'.block _ (by omega)).trans HX.out.1, (b2'.block _ (by omega)).trans HX.out.2⟩
  have HB2' : Hid (Below w.heap.size w w2') := HB2.out.trans (b2'.mono (by omega))
  obtain ⟨tao, tcap, rfl⟩ := hv'.len
  rw [List.length_map] at HS
  clear hv' b2' HE HM2 HT2 HGF HTu HX HB2 HSE
  go_wp2_with fail
  refine HS.out.mono ?_
  rintro e w3 ⟨tops, vo, vp, rvs, rfl, hL, hfew, hPS, hnil, hall, b3⟩
  have hs3 := b3.size
  have x3 := (b3.block _ (by omega)).trans HX2.out.1
  have y3 := (b3.block _ (by omega)).trans HX2.out.2
  have HB3 : Hid (Below w.heap.size w w3) := HB2'.out.trans (b3.mono (by omega))
  have HAll : Hid (∀ q, q ≤ w2'.heap.size → q ∈ tops) := hall
  obtain ⟨oo, oc, hvo⟩ := V.rd_form hL.here
  subst hvo
  have HL : Hid (V.Leaf tops w3 (fun W => S.Rd W (.slice oo s.only.length oc) s.only)) := hL
  have HP : Hid (V.PS (w2'.heap.size + 2) tops w3 vp s.passes rvs) := hPS
  by_cases h0 : s.passes = []
  · have := hnil h0
    subst this
    have HD : Hid (∀ (W : World), w3.heap.size ≤ W.heap.size → (∀ b, b < w3.heap.size → b ∉ tops → W.heap[b]? = w3.heap[b]?) → V.ScIs W (.agg #[.bool s.has, .slice oo s.only.length oc, .slice none 0 0]) ⟨s.has, s.only, s.passes.reverse⟩) := fun W h1 h2 => by
      rw [h0]
      exact ⟨oo, oc, none, 0, rfl, HL.out W h1 h2, by show s.only.length ≤ _; omega, V.Pas.nil W⟩
    obtain ⟨w4, hw4⟩ : ∃ w4, w4 = w3.alloc (.cells #[.bool s.has, .slice oo s.only.length oc, .slice none 0 0] 43) := ⟨_, rfl⟩
    have hbx : w4.heap[w3.heap.size]? = some (.cells #[.bool s.has, .slice oo s.only.length oc, .slice none 0 0] 43) := by rw [hw4]; exact heap_alloc_new w3 _
    have hb4 : Below w3.heap.size w3 w4 := by rw [hw4]; exact (Below.refl _ w3).alloc (Nat.le_refl _) _
    have x4 := (hb4.block _ (by omega)).trans x3
    have y4 := (hb4.block _ (by omega)).trans y3
    obtain ⟨r0, r1, r2, f0, f1, f2⟩ := V.box3 x4
    obtain ⟨u0, u1, g0, g1⟩ := V.box2 y4
    obtain ⟨q0, q1, q2, _, _, _⟩ := V.box3 hbx
    have l3 := L.block_lt r0
    have l4 := L.block_lt u0
    have l5 := L.block_lt q0
    have HE5 : Hid (∀ v0 v1 v2 v3 v4, V.ScIs (((((w4.setCell ⟨w.heap.size, 0, none⟩ v0).setCell ⟨w.heap.size, 1, none⟩ v1).setCell ⟨w.heap.size, 2, none⟩ v2).setCell ⟨w.heap.size + 1, 0, none⟩ v3).setCell ⟨w.heap.size + 1, 1, none⟩ v4) (.agg #[.bool s.has, .slice oo s.only.length oc, .slice none 0 0]) ⟨s.has, s.only, s.passes.reverse⟩) := fun v0 v1 v2 v3 v4 =>
      HD.out _ (by rw [V.five_size]; exact hb4.size) fun b hb hn => (V.five_heap w4 _ _ _ _ _ _ _ b (fun e => hn (e ▸ HAll.out _ (by omega))) (fun e => hn (e ▸ HAll.out _ (by omega)))).trans (hb4.block b hb)
    have HB4 : Hid (Below w.heap.size w w4) := HB3.out.trans (hb4.mono (by omega))
    have HRv : Hid (Calls Try.prog 43 #[.slice none 0 0] w4 fun e w' => e = .returned (.tuple #[]) ∧ w' = w4) := reverse_none w4 none 0
    clear hL hfew hPS hall b3 x3 y3 HX2 HS HSm HB2' hb4 HD HL HP HB3 x4 y4 hbx hnil HAll h0
    go_wp2_with fail
    rw [← hw4]
    refine HRv.out.mono ?_
    rintro e w5 ⟨rfl, rfl⟩
    clear hw4 HRv
    go_wp2
    refine bodyPost_ret (v := .tuple #[.agg #[.bool s.has, .slice oo s.only.length oc, .slice none 0 0], .agg #[.int .i64 0, .int .i64 0]]) (by simp [results, Try.results19, go_sem, *]) rfl ?_
    exact ⟨_, rfl, HE5.out _ _ _ _ _, V.five HB4.out (Nat.le_refl _) (by omega) _ _ _ _ _⟩
  · obtain ⟨g, cap', hvp⟩ : ∃ g cap', vp = .slice (some ⟨g, 0, none⟩) s.passes.length cap' := by
      rcases hPS.own.2 with ⟨_, h1⟩ | ⟨g, cap', cur, e, _⟩
      · exact absurd (List.length_eq_zero_iff.1 h1) h0
      · exact ⟨g, cap', e⟩
    subst hvp
    obtain ⟨-, hFg, hgl, hgt, pf, hpf, hrow⟩ := hPS.prow
    obtain ⟨w4, hw4⟩ : ∃ w4, w4 = w3.alloc (.cells #[.bool s.has, .slice oo s.only.length oc, .slice (some ⟨g, 0, none⟩) s.passes.length cap'] 43) := ⟨_, rfl⟩
    have hbx : w4.heap[w3.heap.size]? = some (.cells #[.bool s.has, .slice oo s.only.length oc, .slice (some ⟨g, 0, none⟩) s.passes.length cap'] 43) := by rw [hw4]; exact heap_alloc_new w3 _
    have hb4 : Below w3.heap.size w3 w4 := by rw [hw4]; exact (Below.refl _ w3).alloc (Nat.le_refl _) _
    have HRv : Hid (Calls Try.prog 43 #[.slice (some ⟨g, 0, none⟩) s.passes.length cap'] w4 fun e w' => e = .returned (.tuple #[]) ∧ V.PRow w' g (fun t => pf (s.passes.length - 1 - t)) s.passes.length ∧ V.But g w4 w') := reverse_some w4 g _ cap' pf (hrow.other (hb4.block g hgl)) (List.length_pos_iff.2 h0) HSm.out.1
    obtain ⟨q0, q1, q2, _, _, _⟩ := V.box3 hbx
    have HG : Hid (V.PCells pf s.passes rvs ∧ w2'.heap.size + 2 ≤ g ∧ g < w3.heap.size ∧ g ∈ tops ∧ Below w3.heap.size w3 w4 ∧ w4.heap[w3.heap.size]? = some (.cells #[.bool s.has, .slice oo s.only.length oc, .slice (some ⟨g, 0, none⟩) s.passes.length cap'] 43)) := ⟨hpf, hFg, hgl, hgt, hb4, hbx⟩
    have HXY : Hid (w3.heap[w.heap.size]? = some (.cells #[.bool false, .slice none 0 0, .slice none 0 0] 43) ∧ w3.heap[w.heap.size + 1]? = some (.cells #[.int .i64 0, .int .i64 0] 26)) := ⟨x3, y3⟩
    have l5 := L.block_lt q0
    clear hL hPS hall b3 x3 y3 HX2 HS HB2' hrow hpf hb4 hbx hnil h0
    go_wp2_with fail
    rw [← hw4]
    refine HRv.out.mono ?_
    rintro e w5 ⟨rfl, hrow5, hbut⟩
    obtain ⟨hpf, hFg, hgl, hgt, hb4, hbx⟩ := HG.out
    have x5 := (hbut.2.1 _ (by omega)).trans ((hb4.block _ (by omega)).trans HXY.out.1)
    have y5 := (hbut.2.1 _ (by omega)).trans ((hb4.block _ (by omega)).trans HXY.out.2)
    have z5 := (hbut.2.1 _ (by omega)).trans hbx
    obtain ⟨r0, r1, r2, f0, f1, f2⟩ := V.box3 x5
    obtain ⟨u0, u1, g0, g1⟩ := V.box2 y5
    obtain ⟨p0, p1, p2, _, _, _⟩ := V.box3 z5
    have l3 := L.block_lt r0
    have l4 := L.block_lt u0
    have l6 := L.block_lt p0
    have HE5 : Hid (∀ v0 v1 v2 v3 v4, V.ScIs (((((w5.setCell ⟨w.heap.size, 0, none⟩ v0).setCell ⟨w.heap.size, 1, none⟩ v1).setCell ⟨w.heap.size, 2, none⟩ v2).setCell ⟨w.heap.size + 1, 0, none⟩ v3).setCell ⟨w.heap.size + 1, 1, none⟩ v4) (.agg #[.bool s.has, .slice oo s.only.length oc, .slice (some ⟨g, 0, none⟩) s.passes.length cap']) ⟨s.has, s.only, s.passes.reverse⟩) := fun v0 v1 v2 v3 v4 => by
      have h4 := hb4.size
      have h5 := hbut.2.2
      refine V.doneB HL.out hfew HP.out HSm.out.1 HSm.out.2 hpf (by rw [V.five_size]; omega) (fun b hb hn => ?_) (fun b hF hb hn => ?_) (hrow5.other (V.five_heap w5 _ _ _ _ _ _ _ g (by omega) (by omega)))
      · exact (V.five_heap w5 _ _ _ _ _ _ _ b (fun e => hn (e ▸ HAll.out _ (by omega))) (fun e => hn (e ▸ HAll.out _ (by omega)))).trans ((hbut.2.1 b fun e => hn (e ▸ hgt)).trans (hb4.block b hb))
      · exact (V.five_heap w5 _ _ _ _ _ _ _ b (by omega) (by omega)).trans ((hbut.2.1 b hn).trans (hb4.block b hb))
    have HB5 : Hid (Below w.heap.size w w5) := by
      have h5 : Below w.heap.size w4 w5 := hbut.1.mono (by omega)
      exact (HB3.out.trans (hb4.mono (by omega))).trans h5
    clear hrow5 hbut hpf hFg hgl hgt hb4 hbx x5 y5 z5 HG HXY HL HP HSm HAll HB3 q0 q1 q2 l5 hw4 HRv
    go_wp2
    refine bodyPost_ret (v := .tuple #[.agg #[.bool s.has, .slice oo s.only.length oc, .slice (some ⟨g, 0, none⟩) s.passes.length cap'], .agg #[.int .i64 0, .int .i64 0]]) (by simp [results, Try.results19, go_sem, *]) rfl ?_
    exact ⟨_, rfl, HE5.out _ _ _ _ _, V.five HB5.out (Nat.le_refl _) (by omega) _ _ _ _ _⟩

/-- all that Back answers -/
theorem back_any (w : World) (v : Value) (l : List R.Part) (R0 : R.Pts w v l) :
    Calls Try.prog 19 #[v] w fun e w' => ∃ v', e = .returned (.tuple #[v', .agg #[.int .i64 (V.backF l).2.1, .int .i64 ((V.backF l).2.2 : Nat)]]) ∧ V.ScIs w' v' (V.backF l).1 ∧ Below w.heap.size w w' := by
  unfold V.backF
  by_cases hg : (V.varsF l).1.1 = 0
  · rw [if_pos hg]; exact back_ok w v l R0 hg
  · rw [if_neg hg]
    exact (back_bad w v l R0 hg).mono fun e w' ⟨h1, h2⟩ => ⟨_, h1, ⟨none, 0, none, 0, rfl, S.Rd.nil _, by simp, V.Pas.nil _⟩, h2⟩


end Go.Proofs.Ytchkcjaahjhbcaa
