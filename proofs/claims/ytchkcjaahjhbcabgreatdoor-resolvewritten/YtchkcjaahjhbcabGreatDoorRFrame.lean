/-
  Files turned round, in plain lists.
-/
import Derived.Test.YtchkcjaahjhbcabGreatDoorQBox
import Derived.Test.YtchkcjaahjhbcabGreatDoorVSame2
import Derived.Test.YtchkcjaahjhbcabGreatDoorVLib
import Derived.Test.YtchkcjaahjhbcabGreatDoorVRun
import Derived.Test.YtchkcjaahjhbcabGreatDoorMath
import Derived.Test.YtchkcjaahjhbcabGreatDoorTBack
import Derived.Deep.Slices
import Derived.SizedLaws
namespace Go.Proofs.YtchkcjaahjhbcabGreatDoor.V
set_option linter.unusedVariables false
set_option linter.unusedSimpArgs false

theorem turn2 {p : R.Part} (h2 : p.kind = 2) : turn p = { p with left := p.right, dir := against p.dir, right := p.left } := by unfold turn; rw [if_neg (by omega), if_pos h2]
theorem turn0 {p : R.Part} (h4 : ¬ p.kind = 4) (h2 : ¬ p.kind = 2) : turn p = p := by unfold turn; rw [if_neg h4, if_neg h2]
theorem turn_kind (p : R.Part) : (turn p).kind = p.kind := by
  unfold turn
  split
  · rfl
  · split <;> rfl
theorem rule_iff {p : R.Part} : R.ruleE p = 0 ↔ (p.dir = 1 ∨ p.dir = 2 ∨ p.dir = 3) ∧ R.sideE p.left (decide (p.dir ≠ 2)) = 0 ∧ R.sideE p.right (decide (p.dir ≠ 1)) = 0 ∧ R.fits p = true := by
  constructor
  · exact R.ruleE_zero
  · rintro ⟨h1, h2, h3, h4⟩
    unfold R.ruleE
    rw [if_neg (by omega), if_neg (by rw [h2]; simp), if_neg (by rw [h3]; simp), if_pos h4]
theorem rule_turn {p : R.Part} (h : R.ruleE p = 0) : R.ruleE { p with left := p.right, dir := against p.dir, right := p.left } = 0 := by
  obtain ⟨h1, h2, h3, h4⟩ := rule_iff.1 h
  refine rule_iff.2 ?_
  unfold R.fits at h4 ⊢
  rcases h1 with h1 | h1 | h1
  · simp [h1, against] at h2 h3 h4 ⊢; exact ⟨h3, h2, h4⟩
  · simp [h1, against] at h2 h3 h4 ⊢; exact ⟨h3, h2, h4⟩
  · simp [h1, against] at h2 h3 h4 ⊢; exact ⟨h3, h2, h4.2, h4.1⟩
theorem against_twice (d : Int) : against (against d) = d := by
  unfold against
  by_cases h1 : d = 1
  · simp [h1]
  · by_cases h2 : d = 2
    · simp [h2]
    · simp [h1, h2]
theorem part_turn {p : R.Part} (h4 : ¬ p.kind = 4) : R.partE (turn p) = 0 ↔ R.partE p = 0 := by
  by_cases h2 : p.kind = 2
  · rw [turn2 h2]
    have e : ∀ q : R.Part, q.kind = 2 → R.partE q = R.ruleE q := fun q hq => by unfold R.partE; simp [hq]
    rw [e p h2, e { p with left := p.right, dir := against p.dir, right := p.left } h2]
    constructor
    · intro h
      have := rule_turn h
      simp only [against_twice] at this
      exact this
    · exact rule_turn
  · rw [turn0 h4 h2]
theorem firstW_all {l : List R.Part} : ∀ {i : Nat}, (∀ p ∈ l, R.partE p = 0) → R.firstW i l = (0, 0) := by
  induction l with
  | nil => intro i _; rfl
  | cons p l ih => intro i h; rw [R.firstW, if_pos (h p (by simp))]; exact ih fun q hq => h q (by simp [hq])
theorem wrong_iff {l : List R.Part} : (R.wrong l).1 = 0 ↔ l.length ≤ 200 ∧ ∀ p ∈ l, R.partE p = 0 := by
  constructor
  · intro h; have := R.wrong_zero h; exact ⟨this.1, this.2.1⟩
  · rintro ⟨h1, h2⟩
    unfold R.wrong
    rw [if_neg (by omega), firstW_all h2]
theorem wrong_turn {l : List R.Part} (h : ∀ p ∈ l, ¬ p.kind = 4) : (R.wrong (l.map turn)).1 = 0 ↔ (R.wrong l).1 = 0 := by
  rw [wrong_iff, wrong_iff]
  simp only [List.length_map, List.mem_map, forall_exists_index, and_imp, forall_apply_eq_imp_iff₂]
  exact and_congr Iff.rfl ⟨fun h1 p hp => (part_turn (h p hp)).1 (h1 p hp), fun h1 p hp => (part_turn (h p hp)).2 (h1 p hp)⟩
theorem step_turn (kn : Known) (flt : Bool) {p : R.Part} (h4 : ¬ p.kind = 4) : stepE kn flt (turn p) = stepE kn flt p ∧ stepK kn (turn p) = stepK kn p ∧ stepF flt (turn p) = stepF flt p := by
  by_cases h2 : p.kind = 2
  · rw [turn2 h2]
    unfold stepE stepK stepF
    simp [h2, Bool.or_comm]
  · rw [turn0 h4 h2]; exact ⟨rfl, rfl, rfl⟩
theorem ord_turn {l : List R.Part} : ∀ (k : Nat) (kn : Known) (flt : Bool), (∀ p ∈ l, ¬ p.kind = 4) → ordF k kn flt (l.map turn) = ordF k kn flt l := by
  induction l with
  | nil => intro k kn flt _; rfl
  | cons p l ih =>
    intro k kn flt h
    obtain ⟨e1, e2, e3⟩ := step_turn kn flt (h p (by simp))
    rw [List.map_cons, ordF, ordF, e1, e2, e3, ih _ _ _ fun q hq => h q (by simp [hq])]
/-- the variables are the same -/
theorem vars_turn {l : List R.Part} (h : ∀ p ∈ l, ¬ p.kind = 4) : ((varsF (l.map turn)).1.1 = 0 ↔ (varsF l).1.1 = 0) ∧ ((varsF l).1.1 = 0 → varsF (l.map turn) = varsF l) := by
  have hw := wrong_turn h
  unfold varsF
  by_cases hg : (R.wrong l).1 = 0
  · rw [if_pos hg, if_pos (hw.2 hg), ord_turn _ _ _ h]
    exact ⟨Iff.rfl, fun _ => rfl⟩
  · rw [if_neg hg, if_neg (fun e => hg (hw.1 e))]
    exact ⟨hw, fun e => absurd e hg⟩
/-- one pass at most -/
def One (ps : List Pass) : Prop := ps = [] ∨ ∃ p, ps = [p] ∧ p.name.size = 0
theorem one_put {ps : List Pass} (h : One ps) (r : K.Rule) : One (putP ps r) := by
  unfold putP
  rcases h with rfl | ⟨p, rfl, hp⟩
  · exact .inr ⟨_, rfl, rfl⟩
  · refine .inr ⟨⟨p.name, p.rules ++ [r]⟩, ?_, hp⟩
    simp [hp]
theorem one_scr (g : ByteArray → List S.Sp) {l : List R.Part} : ∀ (s : Script), (∀ p ∈ l, ¬ p.kind = 4) → One s.passes → One (l.foldl (scrStep g) s).passes := by
  induction l with
  | nil => intro s _ h; exact h
  | cons p l ih =>
    intro s h hs
    rw [List.foldl_cons]
    refine ih _ (fun q hq => h q (by simp [hq])) ?_
    unfold scrStep
    split
    · exact hs
    · rw [if_neg (h p (by simp))]
      split
      · split
        · exact hs
        · exact one_put hs _
      · exact hs
theorem one_rev {ps : List Pass} (h : One ps) : ps.reverse = ps := by
  rcases h with rfl | ⟨p, rfl, _⟩ <;> rfl
/-- sets are small -/
def SmallK (kn : Known) : Prop := ∀ s x, kn s = some x → x.length ≤ 200
theorem ord_small {l : List R.Part} : ∀ (k : Nat) (kn : Known) (flt : Bool), (∀ p ∈ l, R.partE p = 0) → SmallK kn → SmallK (ordF k kn flt l).2 := by
  induction l with
  | nil => intro k kn flt _ h; exact h
  | cons p l ih =>
    intro k kn flt h hs
    rw [ordF]
    split
    · refine ih _ _ _ (fun q hq => h q (by simp [hq])) ?_
      unfold stepK
      split
      · rename_i hk
        intro s x hx
        simp only at hx
        split at hx
        · cases hx
          rcases R.partE_cases (h p (by simp)) with ⟨_, _, h3⟩ | ⟨h3, _⟩ | ⟨h3, _⟩ | ⟨h3, _⟩
          · exact (S.wrongE_zero.1 h3).1
          · omega
          · omega
          · omega
        · exact hs s x hx
      · exact hs
    · intro s x hx; cases hx
theorem vars_small (l : List R.Part) : ∀ s, (gOf (varsF l).2 s).length ≤ 200 := by
  have hk : SmallK (varsF l).2 := by
    unfold varsF
    split
    · rename_i h
      exact ord_small _ _ _ (wrong_iff.1 h).2 fun s x hx => by cases hx
    · intro s x hx; cases hx
  intro s
  unfold gOf
  cases h : (varsF l).2 s with
  | none => simp
  | some x => simpa using hk s x h
theorem set_small {g : ByteArray → List S.Sp} (hg : ∀ s, (g s).length ≤ 200) {x : R.Item} (h : R.itemE x = 0) : (setOf g x).length ≤ 140737488355328 := by
  rcases R.itemE_cases h with ⟨h1, h2⟩ | ⟨h1, h2⟩ | ⟨h1, h2⟩
  · unfold setOf; simp [h1]
  · unfold setOf
    have := (S.wrongE_zero.1 h2).1
    simp [h1]; omega
  · unfold setOf
    have := hg x.name
    simp [h1]; omega
theorem rule_small {g : ByteArray → List S.Sp} (hg : ∀ s, (g s).length ≤ 200) {a b : R.Side} {m : Bool} (h : R.sideE a m = 0) : SmallR (ruleOf g a b) := by
  obtain ⟨a1, a2, a3, _⟩ := R.sideE_zero h
  have hh : ∀ l : List R.Item, R.itemsE l = 0 → ∀ s ∈ l.map (setOf g), s.length ≤ 140737488355328 := fun l hl s hs => by
    obtain ⟨x, hx, rfl⟩ := List.mem_map.1 hs
    exact set_small hg ((R.itemsE_zero.1 hl).2 x hx)
  exact ⟨hh _ a1, hh _ a2, hh _ a3⟩
theorem put_small {ps : List Pass} (h : ∀ p ∈ ps, SmallP p) {r : K.Rule} (hr : SmallR r) : ∀ p ∈ putP ps r, SmallP p := by
  unfold putP
  cases hl : ps.getLast? with
  | none => intro p hp q hq; simp at hp; subst hp; simp at hq; subst hq; exact hr
  | some q =>
    obtain ⟨init, rfl⟩ := List.getLast?_eq_some_iff.1 hl
    simp only
    split
    · intro p hp
      simp at hp
      rcases hp with hp | rfl
      · exact h p (by simp [hp])
      · intro r' hr'
        simp at hr'
        rcases hr' with hr' | rfl
        · exact h q (by simp) r' hr'
        · exact hr
    · intro p hp
      simp at hp
      rcases hp with hp | rfl | rfl
      · exact h p (by simp [hp])
      · exact h p (by simp)
      · intro r' hr'
        simp at hr'
        subst hr'; exact hr
theorem scr_smallP {g : ByteArray → List S.Sp} (hg : ∀ s, (g s).length ≤ 200) {l : List R.Part} : ∀ (s : Script), (∀ p ∈ l, R.partE p = 0) → (∀ p ∈ s.passes, SmallP p) → ∀ p ∈ (l.foldl (scrStep g) s).passes, SmallP p := by
  induction l with
  | nil => intro s _ h; exact h
  | cons p l ih =>
    intro s h hs
    rw [List.foldl_cons]
    refine ih _ (fun q hq => h q (by simp [hq])) ?_
    unfold scrStep
    split
    · exact hs
    · split
      · intro q hq
        simp at hq
        rcases hq with hq | rfl
        · exact hs q hq
        · intro r hr; simp at hr
      · split
        · split
          · exact hs
          · rename_i hk _
            refine put_small hs ?_
            rcases R.partE_cases (h p (by simp)) with ⟨h3, _⟩ | ⟨h3, _⟩ | ⟨h3, _⟩ | ⟨_, h3⟩
            · omega
            · omega
            · omega
            · exact rule_small hg (R.ruleE_zero h3).2.1
        · exact hs
/-- what Forth says of the file turned round is what Back says of the file -/
theorem turned_same {l : List R.Part} (h : ∀ p ∈ l, ¬ p.kind = 4) : ((backF l).2.1 = 0 ↔ (forthF (l.map turn)).2.1 = 0) ∧ ((backF l).2.1 = 0 → (backF l).1 = (forthF (l.map turn)).1 ∧ ∀ p ∈ (forthF (l.map turn)).1.passes, SmallP p) := by
  obtain ⟨h1, h2⟩ := vars_turn h
  unfold backF forthF
  by_cases hg : (varsF l).1.1 = 0
  · rw [if_pos hg, if_pos (h1.2 hg), h2 hg]
    refine ⟨Iff.rfl, fun _ => ⟨?_, ?_⟩⟩
    · have ho : One (scr (gOf (varsF l).2) (l.map turn)).passes := one_scr _ _ (fun p hp => by
        obtain ⟨q, hq, rfl⟩ := List.mem_map.1 hp
        rw [turn_kind]; exact h q hq) (.inl rfl)
      simp only [one_rev ho]
    · refine scr_smallP (vars_small l) _ (fun p hp => ?_) (fun p hp => by cases hp)
      obtain ⟨q, hq, rfl⟩ := List.mem_map.1 hp
      refine (part_turn (h q hq)).2 ?_
      have hw : (R.wrong l).1 = 0 := by
        unfold varsF at hg
        by_cases e : (R.wrong l).1 = 0
        · exact e
        · rw [if_neg e] at hg; exact absurd hg e
      exact (wrong_iff.1 hw).2 q hq
  · rw [if_neg hg, if_neg (fun e => hg (h1.1 e))]
    exact ⟨⟨fun e => absurd e hg, fun e => absurd (h1.1 e) hg⟩, fun e => absurd e hg⟩

end Go.Proofs.YtchkcjaahjhbcabGreatDoor.V

/-
  scriptlaw6.ResolveWritten answers true, for all parts.
-/
namespace Go.Proofs.YtchkcjaahjhbcabGreatDoor
open Go.RowKit
set_option maxRecDepth 20000
set_option linter.unusedSimpArgs false
set_option linter.unusedVariables false

theorem V.forth_small (l : List R.Part) : ∀ p ∈ (V.forthF l).1.passes, V.SmallP p := by
  unfold V.forthF
  split
  · rename_i hg
    have hw : (R.wrong l).1 = 0 := by
      unfold V.varsF at hg
      by_cases e : (R.wrong l).1 = 0
      · exact e
      · rw [if_neg e] at hg; exact absurd hg e
    exact V.scr_smallP (V.vars_small l) _ (V.wrong_iff.1 hw).2 fun p hp => by cases hp
  · intro p hp; cases hp

theorem V.forth_cases (l : List R.Part) : ((V.forthF l).2.1 = 0 ∧ (V.forthF l).2.2 = 0) ∨ (V.forthF l).1 = ⟨false, [], []⟩ := by
  unfold V.forthF
  split
  · exact .inl ⟨rfl, rfl⟩
  · exact .inr rfl
/-- a script that is there is there behind a box's stores -/
theorem V.sc_box {w : World} {v : Value} {s : V.Script} {b : Nat} {fe : Int} {fa : Nat} (h : V.ScIs w v s) (hb : w.heap[b]? = some (.cells #[.int .i64 0, .int .i64 0] 26)) (hc : (fe = 0 ∧ fa = 0) ∨ s = ⟨false, [], []⟩) : V.ScIs ((w.setCell ⟨b, 0, none⟩ (.int .i64 fe)).setCell ⟨b, 1, none⟩ (.int .i64 (fa : Nat))) v s := by
  obtain ⟨oo, oc, po, pc, rfl, h1, h2, h3⟩ := h
  rcases hc with ⟨rfl, rfl⟩ | rfl
  · have hk : R.Keeps w ((w.setCell ⟨b, 0, none⟩ (.int .i64 0)).setCell ⟨b, 1, none⟩ (.int .i64 ((0 : Nat) : Int))) := by
      have e : ((w.setCell ⟨b, 0, none⟩ (.int .i64 0)).setCell ⟨b, 1, none⟩ (.int .i64 ((0 : Nat) : Int))).heap[b]? = some (.cells #[.int .i64 0, .int .i64 0] 26) := heap_setCell_same _ b 1 _ _ _ (heap_setCell_same w b 0 _ _ _ hb)
      intro b' o u hu
      by_cases hbb : b' = b
      · subst hbb
        rw [World.cell?_of_block (a := ⟨b', o, none⟩) (e.trans hb.symm)]
        exact hu
      · rw [World.cell?_of_block (a := ⟨b', o, none⟩) ((heap_setCell_other _ ⟨b, 1, none⟩ b' _ hbb).trans (heap_setCell_other w ⟨b, 0, none⟩ b' _ hbb))]
        exact hu
    exact ⟨oo, oc, po, pc, rfl, R.rd_keeps h1 hk, h2, h3.keeps hk⟩
  · obtain ⟨a1, c1, e1, hn1, _⟩ := h1
    obtain ⟨a2, c2, e2, hn2, _⟩ := h3
    exact ⟨oo, oc, po, pc, rfl, ⟨a1, c1, e1, hn1, fun h => absurd rfl h⟩, h2, a2, c2, e2, hn2, fun h => absurd rfl h⟩

set_option maxHeartbeats 16000000 in
theorem resolveWritten_any (w : World) (v : Value) (l : List R.Part) (R0 : R.Pts w v l) (hT : T.Tz w) :
    Calls Tryz.prog 3 #[v] w fun e w' => e = .returned (.bool true) ∧ Below w.heap.size w w' := by
  have HRd : Hid (∀ (m : List R.Part), m.length ≤ 200 → (∀ p ∈ m, R.partE p = 0) → (⟨(R.printB m).toArray⟩ : ByteArray).size ≤ 16000 → ∀ W, Calls Tryz.prog 6 #[.string ⟨(R.printB m).toArray⟩] W fun e w' => ∃ v, e = .returned (.tuple #[v, .agg #[.int .i64 0, .int .i64 0]]) ∧ R.RowP W.heap.size w' v (m.map R.bareP) ∧ Below W.heap.size W w') := fun m h1 h2 h3 W => by
    obtain ⟨q, hq⟩ := R.read_back h1 h2 h3
    refine (rread_any class_ok _ (R.text_size h1 h2) W).mono fun e w' h => ?_
    rw [hq] at h
    obtain ⟨v, he, hr, _, hb⟩ := h
    exact ⟨v, he, hr, hb⟩
  have HPr : Hid (∀ (W : World), Below w.heap.size w W → Calls Tryz.prog 5 #[v] W fun e w' => e = .returned (R.printV l) ∧ Below W.heap.size W w') := fun W hW => Print_any W v l (R0.below hW) (hT.below hW hT.lt)
  have HBa : Hid ((∀ p ∈ l, R.partE p = 0) → l.length ≤ 200 → ∀ W, Below w.heap.size w W → Calls Tryz.prog 8 #[v] W fun e w' => ∃ v', e = .returned v' ∧ R.Pts w' v' (l.map R.bareP) ∧ Below W.heap.size W w') := fun h1 h2 W hW => Bare_any W v l (R0.below hW) h2 h1
  have HZ : Hid ((R.wrong l).1 = 0 → l.length ≤ 200 ∧ (∀ p ∈ l, R.partE p = 0) ∧ R.wrong l = (0, 0)) := R.wrong_zero
  obtain ⟨ao, cap, rfl⟩ := R0.len
  clear R0 hT
  go_enter Tryz.func3, Tryz.ntmps3
  go_wp2_with fail
  refine (vAlive_any w).mono ?_
  rintro e w1 ⟨rfl, b1⟩
  have HB1 : Hid (Below w.heap.size w w1) := b1
  have hs1 := b1.size
  clear b1
  have hpr := HPr.out w1 HB1.out
  by_cases hz : (R.wrong l).1 = 0
  · obtain ⟨hl200, hok, hwl⟩ := HZ.out hz
    rw [R.printV_ok hwl] at hpr
    have HRdl : Hid _ := HRd.out l hl200 hok
    have HBal : Hid _ := HBa.out hok hl200
    have htz : (⟨(R.printB l).toArray⟩ : ByteArray).size ≤ 1099511627776 := R.text_size hl200 hok
    have hlm : (l.map R.bareP).length = l.length := List.length_map ..
    obtain ⟨lb, hlb⟩ : ∃ lb, lb = l.map R.bareP := ⟨_, rfl⟩
    rw [← hlb] at HRdl HBal hlm
    have HFo : Hid (∀ (W : World) (u : Value), R.Pts W u lb → Calls Tryz.prog 7 #[u] W fun e w' => ∃ v', e = .returned (.tuple #[v', .agg #[.int .i64 (V.forthF lb).2.1, .int .i64 ((V.forthF lb).2.2 : Nat)]]) ∧ V.ScIs w' v' (V.forthF lb).1 ∧ Below W.heap.size W w') := fun W u hu => forth_any W u lb hu
    have HSp : Hid (∀ p ∈ (V.forthF lb).1.passes, V.SmallP p) := V.forth_small lb
    have HCs : Hid (((V.forthF lb).2.1 = 0 ∧ (V.forthF lb).2.2 = 0) ∨ (V.forthF lb).1 = ⟨false, [], []⟩) := V.forth_cases lb
    obtain ⟨⟨fs, fe, fa⟩, hff⟩ : ∃ o, V.forthF lb = o := ⟨_, rfl⟩
    rw [hff] at HFo HSp HCs
    simp only at HFo HSp HCs
    clear hz hwl hok HZ HRd HBa HPr hff hlb
    generalize (⟨(R.printB l).toArray⟩ : ByteArray) = tl at *
    go_wp2_with fail
    refine hpr.mono ?_
    rintro e w2 ⟨rfl, b2⟩
    have HB2 : Hid (∀ o, Below w.heap.size w (w2.alloc o)) := fun o => (HB1.out.trans (b2.mono hs1)).alloc (by have := b2.size; omega) o
    have hs2 := b2.size
    clear b2 hpr HB1
    by_cases h16 : tl.size ≤ 16000
    · have hrd := HRdl.out h16
      obtain ⟨x3, hx3⟩ : ∃ x, x = w2.alloc (.cells #[.int .i64 0, .int .i64 0] 26) := ⟨_, rfl⟩
      have hbx : x3.heap[w2.heap.size]? = some (.cells #[.int .i64 0, .int .i64 0] 26) := by rw [hx3]; exact heap_alloc_new w2 _
      have HB3 : Hid (Below w.heap.size w x3) := by show Below w.heap.size w x3; rw [hx3]; exact HB2.out _
      have s3 : w2.heap.size < x3.heap.size := by rw [hx3]; simp
      have HX3 : Hid (x3.heap[w2.heap.size]? = some (.cells #[.int .i64 0, .int .i64 0] 26)) := hbx
      have hr3 := hrd x3
      clear hbx HB2 hrd
      go_wp2_with fail
      rw [← hx3]
      refine hr3.mono ?_
      rintro e w4 ⟨v4, rfl, r4, b4⟩
      have s4 := b4.size
      obtain ⟨x4, hx4⟩ : ∃ x, x = (w4.setCell ⟨w2.heap.size, 0, none⟩ (.int .i64 0)).setCell ⟨w2.heap.size, 1, none⟩ (.int .i64 0) := ⟨_, rfl⟩
      have hb4 := (b4.block _ s3).trans HX3.out
      obtain ⟨c0, c1, f0, f1⟩ := V.box2 hb4
      have hb5 : x4.heap[w2.heap.size]? = some (.cells #[.int .i64 0, .int .i64 0] 26) := by rw [hx4]; exact heap_setCell_same _ _ 1 _ _ _ (heap_setCell_same _ _ 0 _ _ _ hb4)
      have hg4 : w4.grownBy x4 (some w2.heap.size) := by rw [hx4]; exact S.grown_trans (R.grown_set _ _ _ _) (R.grown_set _ _ _ _)
      have sx4 : x4.heap.size = w4.heap.size := by rw [hx4]; simp
      have HB4 : Hid (Below w.heap.size w x4) := (HB3.out.trans (b4.mono HB3.out.size)).grown hg4 (by have := HB3.out.size; omega) (fun g hg => by have h2 : w2.heap.size = g := Option.some.inj hg; omega)
      have hp4 : R.Pts x4 v4 lb := (R.RowP.pts (R.Row.keep r4 (by omega) (fun b hF hb => hg4.block b hb (by intro h; have h2 : b = w2.heap.size := Option.some.inj h; omega)))).here
      have HR4 : Hid (R.RowP x3.heap.size w4 v4 lb) := r4
      have HK4 : Hid (∀ b, x3.heap.size ≤ b → b < w4.heap.size → x4.heap[b]? = w4.heap[b]?) := fun b hF hb => hg4.block b hb (by intro h; have h2 : b = w2.heap.size := Option.some.inj h; omega)
      obtain ⟨vo4, vc4, hv4⟩ := hp4.len
      rw [hlm] at hv4
      subst hv4
      have HX4 : Hid (x4.heap[w2.heap.size]? = some (.cells #[.int .i64 0, .int .i64 0] 26)) := hb5
      obtain ⟨d0, d1, _, _⟩ := V.box2 hb5
      have hba := HBal.out x4 HB4.out
      clear hr3 hx3 r4 b4 hb4 hg4 hp4 hb5 HX3 HB3
      subst hx4
      go_wp2_with fail
      refine hba.mono ?_
      rintro e w5 ⟨v5, rfl, p5, b5⟩
      have hfo := HFo.out w5 v5 p5
      obtain ⟨vo5, vc5, hv5⟩ := p5.len
      rw [hlm] at hv5
      subst hv5
      have s5 := b5.size
      clear hba p5 c0 c1 f0 f1 d0 d1
      go_wp2_with fail
      refine hfo.mono ?_
      rintro e w6 ⟨v6, rfl, hv6, b6⟩
      have s6 := b6.size
      have hb56 := b5.trans (b6.mono s5)
      have h6 := (hb56.block _ (by omega)).trans HX4.out
      have hS6 := hv6
      obtain ⟨oo, oc, po, pc, rfl, _⟩ := hS6
      obtain ⟨y6, hy6⟩ : ∃ y, y = (w6.setCell ⟨w2.heap.size, 0, none⟩ (.int .i64 fe)).setCell ⟨w2.heap.size, 1, none⟩ (.int .i64 (fa : Nat)) := ⟨_, rfl⟩
      obtain ⟨x6, hx6⟩ : ∃ x, x = y6.alloc (.cells #[.bool fs.has, .slice oo fs.only.length oc, .slice po fs.passes.length pc] 34) := ⟨_, rfl⟩
      obtain ⟨c0, c1, f0, f1⟩ := V.box2 h6
      have hbl := L.block_lt c0
      have hy : y6.heap[w2.heap.size]? = some (.cells #[.int .i64 fe, .int .i64 (fa : Nat)] 26) := by rw [hy6]; exact heap_setCell_same _ _ 1 _ _ _ (heap_setCell_same _ _ 0 _ _ _ h6)
      have hys : y6.heap.size = w6.heap.size := by rw [hy6]; simp
      have hyo : ∀ b, ¬ b = w2.heap.size → y6.heap[b]? = w6.heap[b]? := fun b hb => by rw [hy6]; exact (heap_setCell_other _ ⟨w2.heap.size, 1, none⟩ b _ hb).trans (heap_setCell_other w6 ⟨w2.heap.size, 0, none⟩ b _ hb)
      have hsc := V.sc_box hv6 h6 HCs.out
      rw [← hy6] at hsc
      have hby : Below w.heap.size w y6 := by rw [hy6]; exact (((HB4.out.trans (hb56.mono HB4.out.size))).setCell (p := ⟨w2.heap.size, 0, none⟩) (by show w.heap.size ≤ w2.heap.size; omega) _).setCell (p := ⟨w2.heap.size, 1, none⟩) (by show w.heap.size ≤ w2.heap.size; omega) _
      have bx : Below y6.heap.size y6 x6 := by rw [hx6]; exact (Below.refl _ y6).alloc (Nat.le_refl _) _
      have sx : x6.heap.size = y6.heap.size + 1 := by rw [hx6]; simp
      have hn6 : x6.heap[y6.heap.size]? = some (.cells #[.bool fs.has, .slice oo fs.only.length oc, .slice po fs.passes.length pc] 34) := by rw [hx6]; exact heap_alloc_new y6 _
      have hbw := HB4.out.size
      have hr6 : R.RowP x3.heap.size x6 (.slice vo4 l.length vc4) lb := R.Row.keep HR4.out (by omega) (fun b hF hb => (bx.block b (by omega)).trans ((hyo b (by omega)).trans ((hb56.block b (by omega)).trans (HK4.out b hF hb))))
      have hf2 := HFo.out x6 _ (R.RowP.pts hr6).here
      have H6 : Hid (V.ScIs x6 (.agg #[.bool fs.has, .slice oo fs.only.length oc, .slice po fs.passes.length pc]) fs ∧ x6.heap[w2.heap.size]? = some (.cells #[.int .i64 fe, .int .i64 (fa : Nat)] 26) ∧ x6.heap[w6.heap.size]? = some (.cells #[.bool fs.has, .slice oo fs.only.length oc, .slice po fs.passes.length pc] 34) ∧ Below w.heap.size w x6) := ⟨hsc.below bx, (bx.block _ (by omega)).trans hy, by rw [← hys]; exact hn6, hby.trans (bx.mono (by omega))⟩
      have s26 : w2.heap.size < x6.heap.size ∧ w6.heap.size < x6.heap.size := ⟨by omega, by omega⟩
      rw [hy6] at hx6
      clear hy hys hyo hsc hby bx sx hn6 hr6 hv6 hy6 HCs HR4 HK4 HB4 h6 hfo b5 b6 hb56 HX4 HFo HBal HRdl
      go_wp2_with fail
      rw [← hx6]
      refine hf2.mono ?_
      rintro e w7 ⟨v7, rfl, hv7, b7⟩
      have s7 := b7.size
      have hS7 := hv7
      obtain ⟨oo7, oc7, po7, pc7, rfl, _⟩ := hS7
      obtain ⟨x8, hx8⟩ : ∃ x, x = (w7.alloc (.cells #[.bool fs.has, .slice oo7 fs.only.length oc7, .slice po7 fs.passes.length pc7] 34)).alloc (.cells #[.int .i64 fe, .int .i64 (fa : Nat)] 26) := ⟨_, rfl⟩
      obtain ⟨y1, y2, y3, y4⟩ := K.two_boxes (w := w7) (o1 := .cells #[.bool fs.has, .slice oo7 fs.only.length oc7, .slice po7 fs.passes.length pc7] 34) (o2 := .cells #[.int .i64 fe, .int .i64 (fa : Nat)] 26) (w1 := x8) (by rw [hx8]; exact Below.refl _ _)
      obtain ⟨z0, z1, z2, z3⟩ := H6.out
      have b8 : Below x6.heap.size x6 x8 := b7.trans (y3.mono (by omega))
      have k1 := (b8.block _ s26.1).trans z1
      have k2 := (b8.block _ s26.2).trans z2
      obtain ⟨p0, p1, _, _⟩ := V.box2 k1
      obtain ⟨q0, q1, q2, _, _, _⟩ := V.box3 k2
      obtain ⟨r0, r1, r2, _, _, _⟩ := V.box3 y1
      obtain ⟨t0, t1, _, _⟩ := V.box2 y2
      have HBn : Hid (Below w.heap.size w x8) := z3.trans (b8.mono z3.size)
      have hsame : Calls Tryz.prog 9 #[.agg #[.bool fs.has, .slice oo fs.only.length oc, .slice po fs.passes.length pc], .agg #[.bool fs.has, .slice oo7 fs.only.length oc7, .slice po7 fs.passes.length pc7]] x8 fun e w' => e = .returned (.bool true) ∧ Below x8.heap.size x8 w' := vscript_eq x8 _ _ fs (z0.below b8) (hv7.below y3) HSp.out
      have HSame : Hid (Calls Tryz.prog 9 #[.agg #[.bool fs.has, .slice oo fs.only.length oc, .slice po fs.passes.length pc], .agg #[.bool fs.has, .slice oo7 fs.only.length oc7, .slice po7 fs.passes.length pc7]] x8 fun e w' => e = .returned (.bool true) ∧ Below x8.heap.size x8 w') := hsame
      subst hx8
      clear hx6 hf2 H6 z0 z1 z2 z3 b7 b8 y1 y2 y3 k1 k2 hv7 HSp hsame
      go_wp2_with fail
      refine HSame.out.mono ?_
      rintro e w9 ⟨rfl, b9⟩
      go_wp2
      go_ret
      exact ⟨by simp, HBn.out.trans (b9.mono HBn.out.size)⟩
    · have h17 : (16000 : Int) < (tl.size : Int) := by omega
      go_wp2
      go_ret
      exact ⟨rfl, HB2.out _⟩
  · have e1 : ((R.wrong l).1 == 0) = false := by simpa using hz
    have hpv : R.printV l = .tuple #[.string ⟨#[]⟩, .agg #[.int .i64 (R.wrong l).1, .int .i64 (R.wrong l).2]] := by unfold R.printV; simp [hz]
    rw [hpv] at hpr
    clear hpv HRd HBa HPr HZ
    go_wp2_with fail
    refine hpr.mono ?_
    rintro e w2 ⟨rfl, b2⟩
    have HB2 : Hid (∀ o, Below w.heap.size w (w2.alloc o)) := fun o => (HB1.out.trans (b2.mono hs1)).alloc (by have := b2.size; omega) o
    clear b2 hpr HB1
    go_wp2
    go_ret
    exact ⟨rfl, HB2.out _⟩

end Go.Proofs.YtchkcjaahjhbcabGreatDoor

/-
  What comes in, as lists: a slice of parts.
-/
namespace Go.Proofs.YtchkcjaahjhbcabGreatDoor
open Go.ChangeShapes Go.WideShapes Go.ChangeAt Go.RowKit
set_option linter.unusedSimpArgs false
set_option linter.unusedVariables false

theorem wf_i64 {n : Int} (h : (Lit.int .i64 n).wf = true) : R.I64 n := by
  simp only [Lit.wf, Bool.and_eq_true, decide_eq_true_eq] at h
  have e1 : IntKind.i64.min = -9223372036854775808 := by decide
  have e2 : IntKind.i64.max = 9223372036854775807 := by decide
  rw [e1, e2] at h
  exact h
theorem R.weights_all {H : Type} {P : Program} {e : TypeId} {d : DataW H} : ∀ {l : List (DataW H)}, d ∈ l → ∀ n ∈ d.weights P e, n ∈ DataW.weightsAll P e l
  | x :: r, h, n, hn => by
    simp only [DataW.weightsAll, List.mem_append]
    rcases List.mem_cons.1 h with rfl | h
    · exact .inl hn
    · exact .inr (R.weights_all h n hn)

set_option maxRecDepth 100000 in
theorem spans_cells {H : Type} {enc : TypeId × Value → H} {W : World} {fuel : Nat} {cs : List Value} {x : DataW H × List MemPlace} (h : DataW.trod enc Tryz.prog W 0 (fun _ => true) true fuel 31 cs = some x) :
    ∃ sp c l, cs = [.slice sp (List.length l) c] ∧ S.Rd W (.slice sp l.length c) l ∧ S.Fit l := by
  obtain ⟨f0, f1, hu, o0, o1, t0, t1⟩ : ∃ f0 f1 : Field, Tryz.prog.underlying 97 = some (.struct #[f0, f1]) ∧ f0.offset = 0 ∧ f1.offset = 1 ∧ f0.type = 21 ∧ f1.type = 21 := ⟨_, _, Tryz.underlying97, rfl, rfl, rfl, rfl⟩
  rcases Go.Deep.open_slice_pairs Tryz.underlying31 hu (by kernel_rfl) o0 o1 (by rw [t0]; kernel_rfl) (by rw [t1]; kernel_rfl) h with ⟨hcs, hx⟩ | ⟨a, len, cap, m, n, V0, V1, D0, D1, P0, P1, hcs, _, hl, hm, hmm, hx, hcell⟩
  · exact ⟨none, 0, [], hcs, S.Rd.nil W, fun x hx => by simp at hx⟩
  · have each : ∀ i, i < len → ∃ x1 x2 : Int, V0 i = .int .i32 x1 ∧ V1 i = .int .i32 x2 ∧ -2147483648 ≤ x1 ∧ x1 ≤ 2147483647 ∧ -2147483648 ≤ x2 ∧ x2 ≤ 2147483647 := fun i hi => by
      obtain ⟨_, _, h3, h4⟩ := hcell i (by simp only [if_true] at hmm; omega)
      rw [t0] at h3
      rw [t1] at h4
      obtain ⟨x1, e1, _, w1⟩ := DataW.trod_int Tryz.underlying21 h3
      obtain ⟨x2, e2, _, w2⟩ := DataW.trod_int Tryz.underlying21 h4
      have := wf_i32 w1
      have := wf_i32 w2
      exact ⟨x1, x2, by simpa using e1, by simpa using e2, by omega, by omega, by omega, by omega⟩
    let g : Nat → S.Sp := fun i => (RowKit.intOf (V0 i), RowKit.intOf (V1 i))
    have hg : ∀ i, i < len → V0 i = .int .i32 (g i).1 ∧ V1 i = .int .i32 (g i).2 ∧ -2147483648 ≤ (g i).1 ∧ (g i).1 ≤ 2147483647 ∧ -2147483648 ≤ (g i).2 ∧ (g i).2 ≤ 2147483647 := fun i hi => by
      obtain ⟨x1, x2, e1, e2, h⟩ := each i hi
      simp only [g, e1, e2, RowKit.intOf]
      exact ⟨trivial, trivial, h⟩
    have hlen : ((List.range len).map g).length = len := by simp
    refine ⟨some a, cap, (List.range len).map g, by rw [hcs, hlen], ⟨_, cap, by rw [hlen], fun h => by simp at h, fun hne => ?_⟩, fun x hx => ?_⟩
    · have h0 : 0 < len := by
        cases len with
        | zero => simp at hne
        | succ => omega
      obtain ⟨b, off, spot⟩ := a
      have c0 := (hcell 0 (by simp only [if_true] at hmm; omega)).1
      have hsp : spot = none := by simpa [Addr.add] using World.cell?_spot c0
      subst hsp
      refine ⟨b, off, rfl, fun j x hj => ?_⟩
      have hj2 : j < len := by
        have := (List.getElem?_eq_some_iff.1 hj).1
        rw [hlen] at this
        exact this
      have hxj : g j = x := by
        rw [List.getElem?_map, List.getElem?_range hj2] at hj
        simpa using hj
      obtain ⟨h3, h4, _⟩ := hcell j (by simp only [if_true] at hmm; omega)
      rw [L.addr_add] at h3 h4
      rw [← Nat.add_assoc] at h4
      rw [h3, h4, (hg j hj2).1, (hg j hj2).2.1, hxj]
      exact ⟨rfl, rfl⟩
    · obtain ⟨i, hi, rfl⟩ := List.mem_map.1 hx
      exact (hg i (by simpa using hi)).2.2

set_option maxRecDepth 100000 in
theorem items_cells {H : Type} {enc : TypeId × Value → H} {W : World} {fuel : Nat} {cs : List Value} {x : DataW H × List MemPlace} (h : DataW.trod enc Tryz.prog W 0 (fun _ => true) true fuel 40 cs = some x) (hw : ∀ n ∈ x.1.weights Tryz.prog 40, n ≤ reachBytes) :
    ∃ sp c l, cs = [.slice sp (List.length l) c] ∧ R.Its W (.slice sp l.length c) l := by
  obtain ⟨f0, f1, f2, f3, hu, o0, o1, o2, o3, t0, t1, t2, t3⟩ : ∃ f0 f1 f2 f3 : Field, Tryz.prog.underlying 42 = some (.struct #[f0, f1, f2, f3]) ∧ f0.offset = 0 ∧ f1.offset = 1 ∧ f2.offset = 2 ∧ f3.offset = 3 ∧ f0.type = 3 ∧ f1.type = 21 ∧ f2.type = 31 ∧ f3.type = 9 := ⟨_, _, _, _, Tryz.underlying42, rfl, rfl, rfl, rfl, rfl, rfl, rfl, rfl⟩
  have ce : Tryz.prog.cellsOf 42 = 4 := by kernel_rfl
  have ci : Tryz.prog.cellsOf 3 = 1 := by kernel_rfl
  have ci2 : Tryz.prog.cellsOf 21 = 1 := by kernel_rfl
  have ci3 : Tryz.prog.cellsOf 31 = 1 := by kernel_rfl
  have ci4 : Tryz.prog.cellsOf 9 = 1 := by kernel_rfl
  rcases Go.Deep.open_slice Tryz.underlying40 h with ⟨hcs, hx⟩ | ⟨a, len, cap, m, n, D, Pl, hcs, _, hl, hm, hmm, hx, hcell⟩
  · exact ⟨none, 0, [], hcs, R.Its.nil W⟩
  · subst hx
    simp only [if_true] at hmm
    have each : ∀ i, i < len → ∃ q : R.Item × Option Addr × Nat, W.cell? (a.add (i * 4)) = some (.int .i64 q.1.kind) ∧ W.cell? (a.add (i * 4 + 1)) = some (.int .i32 q.1.rune) ∧ W.cell? (a.add (i * 4 + 2)) = some (.slice q.2.1 q.1.set.length q.2.2) ∧ W.cell? (a.add (i * 4 + 3)) = some (.string q.1.name) ∧
        S.Rd W (.slice q.2.1 q.1.set.length q.2.2) q.1.set ∧ S.Fit q.1.set ∧ q.1.name.size ≤ 140737488355328 := fun i hi => by
      obtain ⟨cs', h1, h2⟩ := hcell i (by omega)
      rw [ce] at h1
      obtain ⟨_, hlen', hcl⟩ := World.cells?_some h1
      obtain ⟨xs, k, hk, hxy, _, hxl, hfl⟩ := DataW.trod_struct hu h2
      match xs, hxl, cs', hlen' with
      | [y0, y1, y2, y3], _, [v0, v1, v2, v3], _ =>
        have g0 := hfl 0 f0 rfl
        have g1 := hfl 1 f1 rfl
        have g2 := hfl 2 f2 rfl
        have g3 := hfl 3 f3 rfl
        simp [o0, o1, o2, o3, t0, t1, t2, t3, ci, ci2, ci3, ci4] at g0 g1 g2 g3
        have e0 := hcl 0 (by omega)
        have e1 := hcl 1 (by omega)
        have e2 := hcl 2 (by omega)
        have e3 := hcl 3 (by omega)
        rw [Go.Deep.add_add] at e0 e1 e2 e3
        obtain ⟨x0, c0, _, w0⟩ := DataW.trod_int Tryz.underlying3 g0
        obtain ⟨x1, c1, _, w1⟩ := DataW.trod_int Tryz.underlying21 g1
        obtain ⟨sp, c, zs, c2, r2, l2⟩ := spans_cells g2
        obtain ⟨nm, c3, hy3, _⟩ := DataW.trod_string Tryz.underlying9 g3
        have hD : D i = .agg [y0.1, y1.1, y2.1, y3.1] := by
          have := congrArg Prod.fst hxy
          simpa using this
        have hn := hw nm.size (by
          simp only [DataW.weights, Tryz.underlying40]
          refine List.mem_cons_of_mem _ (List.mem_append_left _ ?_)
          refine R.weights_all (d := D i) (List.mem_map.2 ⟨i, by simpa using hi, rfl⟩) _ ?_
          rw [hD]
          simp only [DataW.weights, hu]
          refine DataW.weights_mem_each (j := 3) (t := 9) (d := y3.1) (by simp [t3]) rfl _ ?_
          rw [hy3]
          simp [DataW.weights])
        simp only [List.cons.injEq, and_true] at c0 c1 c2 c3
        subst c0 c1 c2 c3
        exact ⟨(⟨x0, x1, zs, nm⟩, sp, c), by simpa using e0, by simpa using e1, by simpa using e2, by simpa using e3, r2, l2, by unfold reachBytes at hn; simp only; omega⟩
    have hne : Inhabited (R.Item × Option Addr × Nat) := ⟨(⟨0, 0, [], ⟨#[]⟩⟩, none, 0)⟩
    obtain ⟨q, hq⟩ := Go.Deep.choose_lt each
    refine ⟨some a, cap, (List.range len).map fun i => (q i).1, by simp [hcs], some a, cap, by simp, fun hne => ?_⟩
    have h0 : 0 < len := by
      cases len with
      | zero => simp at hne
      | succ => omega
    obtain ⟨b, off, spot⟩ := a
    have c0 := (hq 0 h0).1
    have hsp : spot = none := by simpa [Addr.add] using World.cell?_spot c0
    subst hsp
    refine ⟨b, off, rfl, fun j e hj => ?_⟩
    have hj2 : j < len := by
      have := (List.getElem?_eq_some_iff.1 hj).1
      simpa using this
    have hej : (q j).1 = e := by
      rw [List.getElem?_map, List.getElem?_range hj2] at hj
      simpa using hj
    obtain ⟨q0, q1, q2, q3, r, ft, nm⟩ := hq j hj2
    rw [L.addr_add] at q0 q1 q2 q3
    rw [← Nat.add_assoc] at q1 q2 q3
    rw [hej] at q0 q1 q2 q3 r ft nm
    exact ⟨q0, q1, q3, ⟨_, _, q2, r⟩, ft, nm⟩

set_option maxRecDepth 100000 in
theorem side_cells {H : Type} {enc : TypeId × Value → H} {W : World} {fuel : Nat} {v0 v1 v2 v3 v4 v5 : Value} {x : DataW H × List MemPlace} (h : DataW.trod enc Tryz.prog W 0 (fun _ => true) true fuel 45 [v0, v1, v2, v3, v4, v5] = some x) (hw : ∀ n ∈ x.1.weights Tryz.prog 45, n ≤ reachBytes) :
    ∃ s, R.SdIs W (.agg #[v0, v1, v2, v3, v4, v5]) s := by
  obtain ⟨f0, f1, f2, f3, f4, f5, hu, o0, o1, o2, o3, o4, o5, t0, t1, t2, t3, t4, t5⟩ : ∃ f0 f1 f2 f3 f4 f5 : Field, Tryz.prog.underlying 45 = some (.struct #[f0, f1, f2, f3, f4, f5]) ∧ f0.offset = 0 ∧ f1.offset = 1 ∧ f2.offset = 2 ∧ f3.offset = 3 ∧ f4.offset = 4 ∧ f5.offset = 5 ∧ f0.type = 4 ∧ f1.type = 4 ∧ f2.type = 40 ∧ f3.type = 40 ∧ f4.type = 40 ∧ f5.type = 3 := ⟨_, _, _, _, _, _, Tryz.underlying45, rfl, rfl, rfl, rfl, rfl, rfl, rfl, rfl, rfl, rfl, rfl, rfl⟩
  have ci : Tryz.prog.cellsOf 3 = 1 := by kernel_rfl
  have ci2 : Tryz.prog.cellsOf 4 = 1 := by kernel_rfl
  have ci3 : Tryz.prog.cellsOf 40 = 1 := by kernel_rfl
  obtain ⟨xs, k, hk, hxy, _, hxl, hfl⟩ := DataW.trod_struct hu h
  match xs, hxl with
  | [y0, y1, y2, y3, y4, y5], _ =>
    have g0 := hfl 0 f0 rfl
    have g1 := hfl 1 f1 rfl
    have g2 := hfl 2 f2 rfl
    have g3 := hfl 3 f3 rfl
    have g4 := hfl 4 f4 rfl
    have g5 := hfl 5 f5 rfl
    simp [o0, o1, o2, o3, o4, o5, t0, t1, t2, t3, t4, t5, ci, ci2, ci3] at g0 g1 g2 g3 g4 g5
    have hD : x.1 = .agg [y0.1, y1.1, y2.1, y3.1, y4.1, y5.1] := by
      have := congrArg Prod.fst hxy
      simpa using this
    have hwe : ∀ (j : Nat) (t : TypeId) (d : DataW H), ([4, 4, 40, 40, 40, 3] : List TypeId)[j]? = some t → ([y0.1, y1.1, y2.1, y3.1, y4.1, y5.1] : List (DataW H))[j]? = some d → ∀ n ∈ d.weights Tryz.prog t, n ≤ reachBytes := fun j t d h1 h2 n hn => hw n (by
      rw [hD]
      simp only [DataW.weights, hu]
      refine DataW.weights_mem_each (j := j) (t := t) (d := d) ?_ h2 n hn
      simpa [t0, t1, t2, t3, t4, t5] using h1)
    obtain ⟨b0, c0, _⟩ := DataW.trod_bool Tryz.underlying4 g0
    obtain ⟨b1, c1, _⟩ := DataW.trod_bool Tryz.underlying4 g1
    obtain ⟨a2, n2, l2, c2, r2⟩ := items_cells g2 (hwe 2 _ _ rfl rfl)
    obtain ⟨a3, n3, l3, c3, r3⟩ := items_cells g3 (hwe 3 _ _ rfl rfl)
    obtain ⟨a4, n4, l4, c4, r4⟩ := items_cells g4 (hwe 4 _ _ rfl rfl)
    obtain ⟨x5, c5, _, w5⟩ := DataW.trod_int Tryz.underlying3 g5
    simp only [List.cons.injEq, and_true] at c0 c1 c2 c3 c4 c5
    subst c0 c1 c2 c3 c4 c5
    exact ⟨⟨b0, b1, l2, l3, l4, x5⟩, a2, n2, a3, n3, a4, n4, rfl, r2, r3, r4, wf_i64 w5⟩

set_option maxRecDepth 100000 in
theorem part_cells {H : Type} {enc : TypeId × Value → H} {W : World} {fuel : Nat} {v0 v1 v2 v3 v4 v5 v6 v7 v8 v9 v10 v11 v12 v13 v14 v15 : Value} {x : DataW H × List MemPlace} (h : DataW.trod enc Tryz.prog W 0 (fun _ => true) true fuel 47 [v0, v1, v2, v3, v4, v5, v6, v7, v8, v9, v10, v11, v12, v13, v14, v15] = some x) (hw : ∀ n ∈ x.1.weights Tryz.prog 47, n ≤ reachBytes) :
    ∃ p, R.PtIs W (.agg #[v0, v1, v2, v3, v4, v5, v6, v7, v8, v9, v10, v11, v12, v13, v14, v15]) p := by
  obtain ⟨f0, f1, f2, f3, f4, f5, hu, o0, o1, o2, o3, o4, o5, t0, t1, t2, t3, t4, t5⟩ : ∃ f0 f1 f2 f3 f4 f5 : Field, Tryz.prog.underlying 47 = some (.struct #[f0, f1, f2, f3, f4, f5]) ∧ f0.offset = 0 ∧ f1.offset = 1 ∧ f2.offset = 2 ∧ f3.offset = 3 ∧ f4.offset = 4 ∧ f5.offset = 10 ∧ f0.type = 3 ∧ f1.type = 9 ∧ f2.type = 31 ∧ f3.type = 3 ∧ f4.type = 45 ∧ f5.type = 45 := ⟨_, _, _, _, _, _, Tryz.underlying47, rfl, rfl, rfl, rfl, rfl, rfl, rfl, rfl, rfl, rfl, rfl, rfl⟩
  have ci : Tryz.prog.cellsOf 3 = 1 := by kernel_rfl
  have ci2 : Tryz.prog.cellsOf 9 = 1 := by kernel_rfl
  have ci3 : Tryz.prog.cellsOf 31 = 1 := by kernel_rfl
  have ci4 : Tryz.prog.cellsOf 45 = 6 := by kernel_rfl
  obtain ⟨xs, k, hk, hxy, _, hxl, hfl⟩ := DataW.trod_struct hu h
  match xs, hxl with
  | [y0, y1, y2, y3, y4, y5], _ =>
    have g0 := hfl 0 f0 rfl
    have g1 := hfl 1 f1 rfl
    have g2 := hfl 2 f2 rfl
    have g3 := hfl 3 f3 rfl
    have g4 := hfl 4 f4 rfl
    have g5 := hfl 5 f5 rfl
    simp [o0, o1, o2, o3, o4, o5, t0, t1, t2, t3, t4, t5, ci, ci2, ci3, ci4] at g0 g1 g2 g3 g4 g5
    have hD : x.1 = .agg [y0.1, y1.1, y2.1, y3.1, y4.1, y5.1] := by
      have := congrArg Prod.fst hxy
      simpa using this
    have hwe : ∀ (j : Nat) (t : TypeId) (d : DataW H), ([3, 9, 31, 3, 45, 45] : List TypeId)[j]? = some t → ([y0.1, y1.1, y2.1, y3.1, y4.1, y5.1] : List (DataW H))[j]? = some d → ∀ n ∈ d.weights Tryz.prog t, n ≤ reachBytes := fun j t d h1 h2 n hn => hw n (by
      rw [hD]
      simp only [DataW.weights, hu]
      refine DataW.weights_mem_each (j := j) (t := t) (d := d) ?_ h2 n hn
      simpa [t0, t1, t2, t3, t4, t5] using h1)
    obtain ⟨x0, c0, _, w0⟩ := DataW.trod_int Tryz.underlying3 g0
    obtain ⟨nm, c1, hy1, _⟩ := DataW.trod_string Tryz.underlying9 g1
    have hn := hwe 1 _ _ rfl rfl nm.size (by rw [hy1]; simp [DataW.weights])
    obtain ⟨a2, n2, l2, c2, r2, ft2⟩ := spans_cells g2
    obtain ⟨x3, c3, _, w3⟩ := DataW.trod_int Tryz.underlying3 g3
    obtain ⟨s4, r4⟩ := side_cells g4 (hwe 4 _ _ rfl rfl)
    obtain ⟨s5, r5⟩ := side_cells g5 (hwe 5 _ _ rfl rfl)
    simp only [List.cons.injEq, and_true] at c0 c1 c2 c3
    subst c0 c1 c2 c3
    exact ⟨⟨x0, nm, l2, x3, s4, s5⟩, a2, n2, _, _, _, _, _, _, _, _, _, _, _, _, rfl, r2, ft2, r4, r5, by unfold reachBytes at hn; simp only; omega, wf_i64 w3⟩

set_option maxRecDepth 100000 in
theorem parts_rd {H : Type} {enc : TypeId × Value → H} {W : World} {base : Nat} {v : Value} {d : DataW H} {p : List MemPlace}
    (hv : Value.okWide Tryz.prog W .any base 22 v) (h : DataW.Trod enc Tryz.prog W 0 (fun _ => true) true 22 v d p) (hw : ∀ n ∈ d.weights Tryz.prog 22, n ≤ reachBytes) :
    ∃ l : List R.Part, R.Pts W v l := by
  obtain ⟨a0, len0, cap0, rfl⟩ := okWide_slice Tryz.underlying22 hv
  obtain ⟨fuel, hf⟩ := h
  have ce : Tryz.prog.cellsOf 47 = 16 := by kernel_rfl
  rcases Go.Deep.open_slice Tryz.underlying22 hf with ⟨hcs, hx⟩ | ⟨a, len, cap, m, n, D, Pl, hcs, _, hl, hm, hmm, hx, hcell⟩
  · simp [Value.cells] at hcs
    obtain ⟨rfl, rfl, rfl⟩ := hcs
    exact ⟨[], none, 0, rfl, fun h => absurd rfl h⟩
  · simp [Value.cells] at hcs
    obtain ⟨rfl, rfl, rfl⟩ := hcs
    simp only [Prod.mk.injEq] at hx
    obtain ⟨rfl, rfl⟩ := hx
    simp only [if_true] at hmm
    subst hmm
    have each : ∀ i, i < len0 → ∃ q : R.Part × Array Value, R.PtIs W (.agg q.2) q.1 ∧ q.2.size = 16 ∧ ∀ j u, q.2[j]? = some u → W.cell? (a.add (i * 16 + j)) = some u := fun i hi => by
      obtain ⟨cs', h1, h2⟩ := hcell i (by omega)
      rw [ce] at h1
      obtain ⟨_, hlen', hcl⟩ := World.cells?_some h1
      match cs', hlen' with
      | [v0, v1, v2, v3, v4, v5, v6, v7, v8, v9, v10, v11, v12, v13, v14, v15], _ =>
        obtain ⟨p, hp⟩ := part_cells h2 fun n hn => hw n (by
          simp only [DataW.weights, Tryz.underlying22]
          refine List.mem_cons_of_mem _ (List.mem_append_left _ ?_)
          exact R.weights_all (d := D i) (List.mem_map.2 ⟨i, by simpa using hi, rfl⟩) _ hn)
        refine ⟨(p, #[v0, v1, v2, v3, v4, v5, v6, v7, v8, v9, v10, v11, v12, v13, v14, v15]), hp, rfl, fun j u hj => ?_⟩
        have hj16 : j < 16 := (Array.getElem?_eq_some_iff.1 hj).1
        have e := hcl j hj16
        rw [Go.Deep.add_add] at e
        rw [e]
        have : ([v0, v1, v2, v3, v4, v5, v6, v7, v8, v9, v10, v11, v12, v13, v14, v15] : List Value)[j]? = some u := by simpa using hj
        simpa using this
    have hne : Inhabited (R.Part × Array Value) := ⟨(⟨0, ⟨#[]⟩, [], 0, ⟨false, false, [], [], [], 0⟩, ⟨false, false, [], [], [], 0⟩⟩, #[])⟩
    obtain ⟨q, hq⟩ := Go.Deep.choose_lt each
    refine ⟨(List.range len0).map fun i => (q i).1, some a, m, by simp, fun hne => ?_⟩
    have h0 : 0 < len0 := by
      cases len0 with
      | zero => simp at hne
      | succ => omega
    obtain ⟨b, off, spot⟩ := a
    have hsp : spot = none := by
      obtain ⟨_, h16, hc⟩ := hq 0 h0
      have := hc 0 ((q 0).2[0]'(by omega)) (by simp)
      simpa [Addr.add] using World.cell?_spot this
    subst hsp
    refine ⟨b, off, rfl, fun j e hj => ?_⟩
    have hj2 : j < len0 := by
      have := (List.getElem?_eq_some_iff.1 hj).1
      simpa using this
    have hej : (q j).1 = e := by
      rw [List.getElem?_map, List.getElem?_range hj2] at hj
      simpa using hj
    obtain ⟨hP, _, hc⟩ := hq j hj2
    rw [hej] at hP
    obtain ⟨so, sc, lbo, lbc, lso, lsc, lao, lac, rbo, rbc, rso, rsc, rao, rac, he, _⟩ := hP.open
    have he2 := Value.agg.inj he
    rw [he2] at hP hc
    have cc : ∀ (i : Nat) (u : Value), (#[.int .i64 e.kind, .string e.name, .slice so e.set.length sc, .int .i64 e.dir, .bool e.left.start, .bool e.left.fin, .slice lbo e.left.before.length lbc, .slice lso e.left.source.length lsc, .slice lao e.left.after.length lac, .int .i64 e.left.cursor, .bool e.right.start, .bool e.right.fin, .slice rbo e.right.before.length rbc, .slice rso e.right.source.length rsc, .slice rao e.right.after.length rac, .int .i64 e.right.cursor] : Array Value)[i]? = some u → W.cell? ⟨b, off + j * 16 + i, none⟩ = some u := fun i u hi => by
      have := hc i u hi
      rw [L.addr_add, ← Nat.add_assoc] at this
      exact this
    exact ⟨so, sc, lbo, lbc, lso, lsc, lao, lac, rbo, rbc, rso, rsc, rao, rac, cc 0 _ rfl, cc 1 _ rfl, cc 2 _ rfl, cc 3 _ rfl, cc 4 _ rfl, cc 5 _ rfl, cc 6 _ rfl, cc 7 _ rfl, cc 8 _ rfl, cc 9 _ rfl, cc 10 _ rfl, cc 11 _ rfl, cc 12 _ rfl, cc 13 _ rfl, cc 14 _ rfl, cc 15 _ rfl, hP⟩

end Go.Proofs.YtchkcjaahjhbcabGreatDoor
