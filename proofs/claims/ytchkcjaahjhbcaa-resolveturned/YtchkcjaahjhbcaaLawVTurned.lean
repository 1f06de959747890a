/-
  Files turned round, in plain lists.
-/
import Derived.Test.YtchkcjaahjhbcaaVFit
import Derived.Test.YtchkcjaahjhbcaaVSame2
import Derived.Test.YtchkcjaahjhbcaaVAlive
import Derived.Test.YtchkcjaahjhbcaaVStep
namespace Go.Proofs.Ytchkcjaahjhbcaa.V
set_option linter.unusedVariables false
set_option linter.unusedSimpArgs false

theorem turn2 {p : R.Part} (h2 : p.kind = 2) : turn p = { p with left := p.right, dir := against p.dir, right := p.left } := by unfold turn; rw [if_neg (by omega), if_pos h2]
theorem turn0 {p : R.Part} (h4 : ¬ p.kind = 4) (h2 : ¬ p.kind = 2) : turn p = p := by unfold turn; rw [if_neg h4, if_neg h2]
theorem turn_kind (p : R.Part) : (turn p).kind = p.kind := by
  unfold turn
  split
  · rfl
  · split <;> rfl
theorem rule_iff {p : R.Part} : R.ruleE p = 0 ↔ (p.dir = 1 ∨ p.dir = 2 ∨ p.dir = 3) ∧ R.sideE p.left (decide (p.dir ≠ 2)) = 0 ∧ R.sideE p.right (decide (p.dir ≠ 1)) = 0 ∧ R.fits p = true := by
  constructor
  · exact R.ruleE_zero
  · rintro ⟨h1, h2, h3, h4⟩
    unfold R.ruleE
    rw [if_neg (by omega), if_neg (by rw [h2]; simp), if_neg (by rw [h3]; simp), if_pos h4]
theorem rule_turn {p : R.Part} (h : R.ruleE p = 0) : R.ruleE { p with left := p.right, dir := against p.dir, right := p.left } = 0 := by
  obtain ⟨h1, h2, h3, h4⟩ := rule_iff.1 h
  refine rule_iff.2 ?_
  unfold R.fits at h4 ⊢
  rcases h1 with h1 | h1 | h1
  · simp [h1, against] at h2 h3 h4 ⊢; exact ⟨h3, h2, h4⟩
  · simp [h1, against] at h2 h3 h4 ⊢; exact ⟨h3, h2, h4⟩
  · simp [h1, against] at h2 h3 h4 ⊢; exact ⟨h3, h2, h4.2, h4.1⟩
theorem against_twice (d : Int) : against (against d) = d := by
  unfold against
  by_cases h1 : d = 1
  · simp [h1]
  · by_cases h2 : d = 2
    · simp [h2]
    · simp [h1, h2]
theorem part_turn {p : R.Part} (h4 : ¬ p.kind = 4) : R.partE (turn p) = 0 ↔ R.partE p = 0 := by
  by_cases h2 : p.kind = 2
  · rw [turn2 h2]
    have e : ∀ q : R.Part, q.kind = 2 → R.partE q = R.ruleE q := fun q hq => by unfold R.partE; simp [hq]
    rw [e p h2, e { p with left := p.right, dir := against p.dir, right := p.left } h2]
    constructor
    · intro h
      have := rule_turn h
      simp only [against_twice] at this
      exact this
    · exact rule_turn
  · rw [turn0 h4 h2]
theorem firstW_all {l : List R.Part} : ∀ {i : Nat}, (∀ p ∈ l, R.partE p = 0) → R.firstW i l = (0, 0) := by
  induction l with
  | nil => intro i _; rfl
  | cons p l ih => intro i h; rw [R.firstW, if_pos (h p (by simp))]; exact ih fun q hq => h q (by simp [hq])
theorem wrong_iff {l : List R.Part} : (R.wrong l).1 = 0 ↔ l.length ≤ 200 ∧ ∀ p ∈ l, R.partE p = 0 := by
  constructor
  · intro h; have := R.wrong_zero h; exact ⟨this.1, this.2.1⟩
  · rintro ⟨h1, h2⟩
    unfold R.wrong
    rw [if_neg (by omega), firstW_all h2]
theorem wrong_turn {l : List R.Part} (h : ∀ p ∈ l, ¬ p.kind = 4) : (R.wrong (l.map turn)).1 = 0 ↔ (R.wrong l).1 = 0 := by
  rw [wrong_iff, wrong_iff]
  simp only [List.length_map, List.mem_map, forall_exists_index, and_imp, forall_apply_eq_imp_iff₂]
  exact and_congr Iff.rfl ⟨fun h1 p hp => (part_turn (h p hp)).1 (h1 p hp), fun h1 p hp => (part_turn (h p hp)).2 (h1 p hp)⟩
theorem step_turn (kn : Known) (flt : Bool) {p : R.Part} (h4 : ¬ p.kind = 4) : stepE kn flt (turn p) = stepE kn flt p ∧ stepK kn (turn p) = stepK kn p ∧ stepF flt (turn p) = stepF flt p := by
  by_cases h2 : p.kind = 2
  · rw [turn2 h2]
    unfold stepE stepK stepF
    simp [h2, Bool.or_comm]
  · rw [turn0 h4 h2]; exact ⟨rfl, rfl, rfl⟩
theorem ord_turn {l : List R.Part} : ∀ (k : Nat) (kn : Known) (flt : Bool), (∀ p ∈ l, ¬ p.kind = 4) → ordF k kn flt (l.map turn) = ordF k kn flt l := by
  induction l with
  | nil => intro k kn flt _; rfl
  | cons p l ih =>
    intro k kn flt h
    obtain ⟨e1, e2, e3⟩ := step_turn kn flt (h p (by simp))
    rw [List.map_cons, ordF, ordF, e1, e2, e3, ih _ _ _ fun q hq => h q (by simp [hq])]
/-- the variables are the same -/
theorem vars_turn {l : List R.Part} (h : ∀ p ∈ l, ¬ p.kind = 4) : ((varsF (l.map turn)).1.1 = 0 ↔ (varsF l).1.1 = 0) ∧ ((varsF l).1.1 = 0 → varsF (l.map turn) = varsF l) := by
  have hw := wrong_turn h
  unfold varsF
  by_cases hg : (R.wrong l).1 = 0
  · rw [if_pos hg, if_pos (hw.2 hg), ord_turn _ _ _ h]
    exact ⟨Iff.rfl, fun _ => rfl⟩
  · rw [if_neg hg, if_neg (fun e => hg (hw.1 e))]
    exact ⟨hw, fun e => absurd e hg⟩
/-- one pass at most -/
def One (ps : List Pass) : Prop := ps = [] ∨ ∃ p, ps = [p] ∧ p.name.size = 0
theorem one_put {ps : List Pass} (h : One ps) (r : K.Rule) : One (putP ps r) := by
  unfold putP
  rcases h with rfl | ⟨p, rfl, hp⟩
  · exact .inr ⟨_, rfl, rfl⟩
  · refine .inr ⟨⟨p.name, p.rules ++ [r]⟩, ?_, hp⟩
    simp [hp]
theorem one_scr (g : ByteArray → List S.Sp) {l : List R.Part} : ∀ (s : Script), (∀ p ∈ l, ¬ p.kind = 4) → One s.passes → One (l.foldl (scrStep g) s).passes := by
  induction l with
  | nil => intro s _ h; exact h
  | cons p l ih =>
    intro s h hs
    rw [List.foldl_cons]
    refine ih _ (fun q hq => h q (by simp [hq])) ?_
    unfold scrStep
    split
    · exact hs
    · rw [if_neg (h p (by simp))]
      split
      · split
        · exact hs
        · exact one_put hs _
      · exact hs
theorem one_rev {ps : List Pass} (h : One ps) : ps.reverse = ps := by
  rcases h with rfl | ⟨p, rfl, _⟩ <;> rfl
/-- sets are small -/
def SmallK (kn : Known) : Prop := ∀ s x, kn s = some x → x.length ≤ 200
theorem ord_small {l : List R.Part} : ∀ (k : Nat) (kn : Known) (flt : Bool), (∀ p ∈ l, R.partE p = 0) → SmallK kn → SmallK (ordF k kn flt l).2 := by
  induction l with
  | nil => intro k kn flt _ h; exact h
  | cons p l ih =>
    intro k kn flt h hs
    rw [ordF]
    split
    · refine ih _ _ _ (fun q hq => h q (by simp [hq])) ?_
      unfold stepK
      split
      · rename_i hk
        intro s x hx
        simp only at hx
        split at hx
        · cases hx
          rcases R.partE_cases (h p (by simp)) with ⟨_, _, h3⟩ | ⟨h3, _⟩ | ⟨h3, _⟩ | ⟨h3, _⟩
          · exact (S.wrongE_zero.1 h3).1
          · omega
          · omega
          · omega
        · exact hs s x hx
      · exact hs
    · intro s x hx; cases hx
theorem vars_small (l : List R.Part) : ∀ s, (gOf (varsF l).2 s).length ≤ 200 := by
  have hk : SmallK (varsF l).2 := by
    unfold varsF
    split
    · rename_i h
      exact ord_small _ _ _ (wrong_iff.1 h).2 fun s x hx => by cases hx
    · intro s x hx; cases hx
  intro s
  unfold gOf
  cases h : (varsF l).2 s with
  | none => simp
  | some x => simpa using hk s x h
theorem set_small {g : ByteArray → List S.Sp} (hg : ∀ s, (g s).length ≤ 200) {x : R.Item} (h : R.itemE x = 0) : (setOf g x).length ≤ 140737488355328 := by
  rcases R.itemE_cases h with ⟨h1, h2⟩ | ⟨h1, h2⟩ | ⟨h1, h2⟩
  · unfold setOf; simp [h1]
  · unfold setOf
    have := (S.wrongE_zero.1 h2).1
    simp [h1]; omega
  · unfold setOf
    have := hg x.name
    simp [h1]; omega
theorem rule_small {g : ByteArray → List S.Sp} (hg : ∀ s, (g s).length ≤ 200) {a b : R.Side} {m : Bool} (h : R.sideE a m = 0) : SmallR (ruleOf g a b) := by
  obtain ⟨a1, a2, a3, _⟩ := R.sideE_zero h
  have hh : ∀ l : List R.Item, R.itemsE l = 0 → ∀ s ∈ l.map (setOf g), s.length ≤ 140737488355328 := fun l hl s hs => by
    obtain ⟨x, hx, rfl⟩ := List.mem_map.1 hs
    exact set_small hg ((R.itemsE_zero.1 hl).2 x hx)
  exact ⟨hh _ a1, hh _ a2, hh _ a3⟩
theorem put_small {ps : List Pass} (h : ∀ p ∈ ps, SmallP p) {r : K.Rule} (hr : SmallR r) : ∀ p ∈ putP ps r, SmallP p := by
  unfold putP
  cases hl : ps.getLast? with
  | none => intro p hp q hq; simp at hp; subst hp; simp at hq; subst hq; exact hr
  | some q =>
    obtain ⟨init, rfl⟩ := List.getLast?_eq_some_iff.1 hl
    simp only
    split
    · intro p hp
      simp at hp
      rcases hp with hp | rfl
      · exact h p (by simp [hp])
      · intro r' hr'
        simp at hr'
        rcases hr' with hr' | rfl
        · exact h q (by simp) r' hr'
        · exact hr
    · intro p hp
      simp at hp
      rcases hp with hp | rfl | rfl
      · exact h p (by simp [hp])
      · exact h p (by simp)
      · intro r' hr'
        simp at hr'
        subst hr'; exact hr
theorem scr_smallP {g : ByteArray → List S.Sp} (hg : ∀ s, (g s).length ≤ 200) {l : List R.Part} : ∀ (s : Script), (∀ p ∈ l, R.partE p = 0) → (∀ p ∈ s.passes, SmallP p) → ∀ p ∈ (l.foldl (scrStep g) s).passes, SmallP p := by
  induction l with
  | nil => intro s _ h; exact h
  | cons p l ih =>
    intro s h hs
    rw [List.foldl_cons]
    refine ih _ (fun q hq => h q (by simp [hq])) ?_
    unfold scrStep
    split
    · exact hs
    · split
      · intro q hq
        simp at hq
        rcases hq with hq | rfl
        · exact hs q hq
        · intro r hr; simp at hr
      · split
        · split
          · exact hs
          · rename_i hk _
            refine put_small hs ?_
            rcases R.partE_cases (h p (by simp)) with ⟨h3, _⟩ | ⟨h3, _⟩ | ⟨h3, _⟩ | ⟨_, h3⟩
            · omega
            · omega
            · omega
            · exact rule_small hg (R.ruleE_zero h3).2.1
        · exact hs
/-- what Forth says of the file turned round is what Back says of the file -/
theorem turned_same {l : List R.Part} (h : ∀ p ∈ l, ¬ p.kind = 4) : ((backF l).2.1 = 0 ↔ (forthF (l.map turn)).2.1 = 0) ∧ ((backF l).2.1 = 0 → (backF l).1 = (forthF (l.map turn)).1 ∧ ∀ p ∈ (forthF (l.map turn)).1.passes, SmallP p) := by
  obtain ⟨h1, h2⟩ := vars_turn h
  unfold backF forthF
  by_cases hg : (varsF l).1.1 = 0
  · rw [if_pos hg, if_pos (h1.2 hg), h2 hg]
    refine ⟨Iff.rfl, fun _ => ⟨?_, ?_⟩⟩
    · have ho : One (scr (gOf (varsF l).2) (l.map turn)).passes := one_scr _ _ (fun p hp => by
        obtain ⟨q, hq, rfl⟩ := List.mem_map.1 hp
        rw [turn_kind]; exact h q hq) (.inl rfl)
      simp only [one_rev ho]
    · refine scr_smallP (vars_small l) _ (fun p hp => ?_) (fun p hp => by cases hp)
      obtain ⟨q, hq, rfl⟩ := List.mem_map.1 hp
      refine (part_turn (h q hq)).2 ?_
      have hw : (R.wrong l).1 = 0 := by
        unfold varsF at hg
        by_cases e : (R.wrong l).1 = 0
        · exact e
        · rw [if_neg e] at hg; exact absurd hg e
      exact (wrong_iff.1 hw).2 q hq
  · rw [if_neg hg, if_neg (fun e => hg (h1.1 e))]
    exact ⟨⟨fun e => absurd e hg, fun e => absurd (h1.1 e) hg⟩, fun e => absurd e hg⟩

end Go.Proofs.Ytchkcjaahjhbcaa.V

/-
  ResolveTurned: what Back says of a file without passes Forth says of it turned round.
-/
namespace Go.Proofs.Ytchkcjaahjhbcaa
open Go.RowKit Go.Lib
set_option maxRecDepth 20000
set_option linter.unusedSimpArgs false
set_option linter.unusedVariables false

namespace V
theorem range_box {W : World} {b : Nat} {c : List Value} {ty : TypeId} (h : W.heap[b]? = some (.cells c.toArray ty)) (o : Nat) (cs : List Value) (hc : ∀ (j : Nat) v, cs[j]? = some v → c[o + j]? = some v) : W.rangeAt b o cs := fun j v hv => K.at_box h (by simpa using hc j v hv)
theorem there_box {W : World} {b : Nat} {c : List Value} {ty : TypeId} (h : W.heap[b]? = some (.cells c.toArray ty)) (o n : Nat) (hn : o + n ≤ c.length) : W.there b o n := fun j hj => by
  have e : W.cell? ⟨b, o + j, none⟩ = some (c[o + j]'(by omega)) := K.at_box h (by simp)
  exact ⟨by rw [e]; rfl, frozen_of_row W b _ _ _ h⟩

theorem box6_4 {W : World} {b : Nat} {ty : TypeId} {x0 x1 x2 x3 x4 x5 x6 x7 x8 x9 x10 x11 x12 x13 x14 x15 : Value} (h : W.heap[b]? = some (.cells [x0, x1, x2, x3, x4, x5, x6, x7, x8, x9, x10, x11, x12, x13, x14, x15].toArray ty)) (v0 v1 v2 v3 v4 v5 : Value) : (W.setCells b 4 [v0, v1, v2, v3, v4, v5]).heap[b]? = some (.cells [x0, x1, x2, x3, v0, v1, v2, v3, v4, v5, x10, x11, x12, x13, x14, x15].toArray ty) := by
  have h0 := heap_setCell_same W b 4 _ ty v0 h
  have h1 := heap_setCell_same _ b 5 _ ty v1 h0
  have h2 := heap_setCell_same _ b 6 _ ty v2 h1
  have h3 := heap_setCell_same _ b 7 _ ty v3 h2
  have h4 := heap_setCell_same _ b 8 _ ty v4 h3
  exact heap_setCell_same _ b 9 _ ty v5 h4
theorem box6_10 {W : World} {b : Nat} {ty : TypeId} {x0 x1 x2 x3 x4 x5 x6 x7 x8 x9 x10 x11 x12 x13 x14 x15 : Value} (h : W.heap[b]? = some (.cells [x0, x1, x2, x3, x4, x5, x6, x7, x8, x9, x10, x11, x12, x13, x14, x15].toArray ty)) (v0 v1 v2 v3 v4 v5 : Value) : (W.setCells b 10 [v0, v1, v2, v3, v4, v5]).heap[b]? = some (.cells [x0, x1, x2, x3, x4, x5, x6, x7, x8, x9, v0, v1, v2, v3, v4, v5].toArray ty) := by
  have h0 := heap_setCell_same W b 10 _ ty v0 h
  have h1 := heap_setCell_same _ b 11 _ ty v1 h0
  have h2 := heap_setCell_same _ b 12 _ ty v2 h1
  have h3 := heap_setCell_same _ b 13 _ ty v3 h2
  have h4 := heap_setCell_same _ b 14 _ ty v4 h3
  exact heap_setCell_same _ b 15 _ ty v5 h4
theorem cells_other (b : Nat) : ∀ (vs : List Value) (o : Nat) (W : World) (k : Nat), ¬ k = b → (W.setCells b o vs).heap[k]? = W.heap[k]?
  | [], _, _, _, _ => rfl
  | v :: vs, o, W, k, hk => (cells_other b vs (o + 1) (W.setCell ⟨b, o, none⟩ v) k hk).trans (heap_setCell_other W ⟨b, o, none⟩ k v hk)
theorem cells_below {B : Nat} {w0 : World} (b : Nat) (hB : B ≤ b) : ∀ (vs : List Value) (o : Nat) (W : World), Below B w0 W → Below B w0 (W.setCells b o vs)
  | [], _, _, h => h
  | v :: vs, o, W, h => cells_below b hB vs (o + 1) (W.setCell ⟨b, o, none⟩ v) (h.setCell (p := ⟨b, o, none⟩) hB v)
theorem cells_size (b : Nat) : ∀ (vs : List Value) (o : Nat) (W : World), (W.setCells b o vs).heap.size = W.heap.size
  | [], _, _ => rfl
  | v :: vs, o, W => (cells_size b vs (o + 1) (W.setCell ⟨b, o, none⟩ v)).trans (by simp)
theorem row_lay {w : World} {g : Nat} {t : TypeId} {old : Array Value} (h : w.heap[g]? = some (.cells old t)) (new : Array Value) : (w.setRow g new).heap[g]? = some (.cells new t) ∧ w.grownBy (w.setRow g new) (some g) :=
  ⟨setRow_heap w g old new t _ h, rfl, rfl, rfl, by simp, fun k _ hk => setRow_other w g k _ (fun e => hk (by simp [e]))⟩
theorem list_bs {P : Program} {ops : Array Oper} {rest : List Oper} {o : Oper} {a : Act} {w w' : World} {Q : Exit → Act → World → Prop} (hgd : o.guard = none) (t : TypeId) (n : Nat) (x : Operand) (ho : o.op = .buildSlice t n #[(0, x)])
    (u : Value) (hx : a.eval x = u) (v : Value) (hrun : (Instr.buildSlice t n #[(0, u)]).run P w = .ok v w') (h : wpList P ops Q rest (a.put o.dst v) w') : wpList P ops Q (o :: rest) a w :=
  wpList_plain hgd fun K hK => by
    have h' := hK _ _ h
    have hp : ((#[(0, x)] : Array (Nat × Operand)).map fun (i, x) => (i, a.eval x)) = #[(0, u)] := by simp [hx]
    unfold Oper.wp execOp
    simp only [ho, hp, Sem.run_bind, Sem.run_pure, Result.andThen_ok, hrun]
    exact h'
set_option maxHeartbeats 4000000 in
theorem bs_run (w : World) (x0 x1 x2 x3 x4 x5 x6 x7 x8 x9 x10 x11 x12 x13 x14 x15 : Value) : (Instr.buildSlice 39 1 #[(0, .agg #[x0, x1, x2, x3, x4, x5, x6, x7, x8, x9, x10, x11, x12, x13, x14, x15])]).run Try.prog w = .ok (.slice (some ⟨w.heap.size, 0, none⟩) 1 1) (w.alloc (.cells #[x0, x1, x2, x3, x4, x5, x6, x7, x8, x9, x10, x11, x12, x13, x14, x15] 53)) := by
  first | kernel_rfl | go_simp
theorem bs_list (w : World) (c : List Value) (hc : c.length = 16) : (Instr.buildSlice 39 1 #[(0, .agg c.toArray)]).run Try.prog w = .ok (.slice (some ⟨w.heap.size, 0, none⟩) 1 1) (w.alloc (.cells c.toArray 53)) := by
  match c, hc with
  | [x0, x1, x2, x3, x4, x5, x6, x7, x8, x9, x10, x11, x12, x13, x14, x15], _ => exact bs_run w x0 x1 x2 x3 x4 x5 x6 x7 x8 x9 x10 x11 x12 x13 x14 x15
/-- a row that reads as parts -/
theorem own_pts {w0 w : World} {v : Value} {A : List (List Value)} {l : List R.Part} (hP : PCs w0 A l) (hb : Below w0.heap.size w0 w) (ho : w.ownsRow w0.heap.size 53 16 v l.length A.flatten) : R.Pts w v l := by
  rcases ho.2 with ⟨e, h0⟩ | ⟨g, cap, cur, e, _⟩
  · have : l = [] := List.length_eq_zero_iff.1 h0
    subst this; subst e
    exact ⟨none, 0, rfl, fun h => absurd rfl h⟩
  · subst e
    have hcell := World.ownsRow.cells ho (g := g) rfl
    refine cells_pts (hP.below hb) fun j c q u h1 h2 => ?_
    have h3 := hcell (j * 16 + q) u (R.flat_get (k := 16) (fun c hc => (hP.2.1 c hc).1) j q c u h1 h2)
    rw [L.addr_add] at h3
    simpa using h3
end V

set_option maxHeartbeats 16000000 in
theorem resolveTurned_any (w : World) (v : Value) (l : List R.Part) (R0 : R.Pts w v l) (hl : l.length * 232 ≤ 140737488355328) :
    Calls Try.prog 7 #[v] w fun e w' => e = .returned (.bool true) ∧ Below w.heap.size w w' := by
  obtain ⟨i0, hi, hz0, hz1, hz2⟩ := info_parts Try.vinfoPt
  have HR0 : Hid (R.Pts w v l) := R0
  obtain ⟨lo, lcap, rfl⟩ := R0.len
  obtain ⟨cs, HP, HC⟩ : ∃ cs, Hid (V.PCs w cs l) ∧ Hid (∀ b off, lo = some ⟨b, off, none⟩ → ∀ (j : Nat) c q u, cs[j]? = some c → c[q]? = some u → w.cell? ⟨b, off + j * 16 + q, none⟩ = some u) := by
    obtain ⟨ao, cap', e, hc⟩ := R0
    obtain ⟨rfl, -, rfl⟩ := Value.slice.inj e
    by_cases h0 : l = []
    · subst h0
      exact ⟨[], ⟨rfl, fun c hc => (by cases hc), fun j p c h => by cases h⟩, fun b off _ j c q u h => by cases h⟩
    · obtain ⟨b, off, rfl, _⟩ := hc h0
      obtain ⟨cs, h1, h2⟩ := V.pts_cells (cap := 0) ⟨_, _, rfl, hc⟩
      refine ⟨cs, h1, fun b' off' he => ?_⟩
      cases he
      exact h2
  have hcl : cs.length = l.length := HP.out.1
  clear R0
  go_enter Try.func7, Try.ntmps7
  go_wp2_with fail
  refine (vAlive_any w).mono ?_
  rintro e w1 ⟨rfl, b1⟩
  have HB1 : Hid (Below w.heap.size w w1) := b1
  clear b1
  go_wp2
  go_loopw [3, 14] (fun mv i wr => ∃ (k : Nat) (mo : Option Addr) (mc : Nat) (A : List (List Value)), k ≤ l.length ∧ i = .int .i64 k ∧ mv = .slice mo k mc ∧ Hid (wr.ownsRow w.heap.size 53 16 (.slice mo k mc) k A.flatten ∧ V.PCs w A ((l.take k).map V.turn) ∧ Below w.heap.size w wr ∧ ∀ p ∈ l.take k, ¬ p.kind = 4)) (fun _ i _ => l.length - (RowKit.intOf i).toNat)
  case atStart => exact ⟨0, none, 0, [], Nat.zero_le _, rfl, rfl, World.ownsRow_nil _ _ _ _, ⟨rfl, fun c hc => (by cases hc), fun j p c h => by cases h⟩, HB1.out, fun p hp => by simp at hp⟩
  case round =>
    obtain ⟨k, mo, mc, A, hk, rfl, rfl, HI⟩ := hrel
    clear HB1
    by_cases hlt : k < l.length
    · obtain ⟨p, hp⟩ : ∃ x, l[k]? = some x := ⟨l[k], by simp [hlt]⟩
      obtain ⟨c, hck⟩ : ∃ x, cs[k]? = some x := ⟨cs[k]'(by omega), by simp [hcl, hlt]⟩
      obtain ⟨b, off, rfl⟩ : ∃ b off, lo = some ⟨b, off, none⟩ := by
        obtain ⟨ao, cap', e, hc⟩ := HR0.out
        obtain ⟨rfl, -, rfl⟩ := Value.slice.inj e
        obtain ⟨b, off, h, _⟩ := hc (by intro h; subst h; simp at hlt)
        exact ⟨b, off, h⟩
      have hone := HP.out.2.1 c (List.mem_of_getElem? hck)
      obtain ⟨nm, so, n0, sc, a1, a2, b1, n1, j1, b2, n2, j2, b3, n3, j3, ac, e1, e2, f1, m1, d1, f2, m2, d2, f3, m3, d3, ec, HCe, m5, p4, p2, p0⟩ := V.letters (HP.out.2.2 k p c hp hck)
      have HCe' : Hid (c = [.int .i64 p.kind, .string nm, .slice so n0 sc, .int .i64 p.dir, .bool a1, .bool a2, .slice b1 n1 j1, .slice b2 n2 j2, .slice b3 n3 j3, .int .i64 ac, .bool e1, .bool e2, .slice f1 m1 d1, .slice f2 m2 d2, .slice f3 m3 d3, .int .i64 ec]) := HCe
      have hrg : wr.rangeAt b (off + k * 16) c := fun j u hj => by
        have h := HC.out b off rfl k c j u hck hj
        rw [← HI.out.2.2.1.cell (p := ⟨b, off + k * 16 + j, none⟩) (L.block_lt h)] at h
        exact h
      have HTk : Hid ((l.take (k + 1)).map V.turn = (l.take k).map V.turn ++ [V.turn p]) := by
        show _ = _
        rw [List.take_add_one, hp]; simp
      have HK4 : Hid (¬ p.kind = 4 → ∀ q ∈ l.take (k + 1), ¬ q.kind = 4) := fun h4 q hq => by
        rw [List.take_add_one, hp] at hq
        rcases List.mem_append.1 hq with h | h
        · exact HI.out.2.2.2 q h
        · simp at h; subst h; exact h4
      obtain ⟨hown, hA, hB, _⟩ := HI.out
      have HO : Hid (wr.ownsRow w.heap.size 53 16 (.slice mo k mc) k A.flatten) := hown
      have HA : Hid (V.PCs w A ((l.take k).map V.turn)) := hA
      have HB : Hid (Below w.heap.size w wr) := hB
      have hc16 : c.length = 16 := hone.1
      have hc1 : c.toArray.all (·.oneCell') = true := all_oneCell_toArray hone.2
      have hinf : (Try.prog.info? 53).map (·.size) = some c.length := by rw [hc16]; kernel_rfl
      have hinf2 : (Try.prog.info? 53).map (·.size) = some c.toArray.size := by simpa using hinf
      obtain ⟨W1, hW1⟩ : ∃ W1, Hid (W1 = (wr.alloc (.cells #[.int .i64 0, .string ⟨#[]⟩, .slice none 0 0, .int .i64 0, .bool false, .bool false, .slice none 0 0, .slice none 0 0, .slice none 0 0, .int .i64 0, .bool false, .bool false, .slice none 0 0, .slice none 0 0, .slice none 0 0, .int .i64 0] 53)).setRow wr.heap.size c.toArray) := ⟨_, rfl⟩
      have hZ1 : (wr.alloc (.cells #[.int .i64 0, .string ⟨#[]⟩, .slice none 0 0, .int .i64 0, .bool false, .bool false, .slice none 0 0, .slice none 0 0, .slice none 0 0, .int .i64 0, .bool false, .bool false, .slice none 0 0, .slice none 0 0, .slice none 0 0, .int .i64 0] 53)).heap[wr.heap.size]? = some (.cells #[.int .i64 0, .string ⟨#[]⟩, .slice none 0 0, .int .i64 0, .bool false, .bool false, .slice none 0 0, .slice none 0 0, .slice none 0 0, .int .i64 0, .bool false, .bool false, .slice none 0 0, .slice none 0 0, .slice none 0 0, .int .i64 0] 53) := heap_alloc_new wr _
      have hzs : (#[.int .i64 0, .string ⟨#[]⟩, .slice none 0 0, .int .i64 0, .bool false, .bool false, .slice none 0 0, .slice none 0 0, .slice none 0 0, .int .i64 0, .bool false, .bool false, .slice none 0 0, .slice none 0 0, .slice none 0 0, .int .i64 0] : Array Value).size = c.toArray.size := by simp [hc16]
      have hr1 := V.row_lay hZ1 c.toArray
      rw [← hW1.out] at hr1
      have s1 : W1.heap.size ≤ wr.heap.size + 1 ∧ wr.heap.size + 1 ≤ W1.heap.size := by rw [hW1.out]; simp
      have hsb := hB.size
      have HW1 : Hid (W1.heap[wr.heap.size]? = some (.cells c.toArray 53) ∧ Below wr.heap.size wr W1) := ⟨hr1.1, ((Below.refl _ wr).alloc (Nat.le_refl _) _).grown hr1.2 (by simp) (fun g hg => by have h2 : wr.heap.size = g := Option.some.inj hg; omega)⟩
      have hbx : W1.heap[wr.heap.size]? = some (.cells [.int .i64 p.kind, .string nm, .slice so n0 sc, .int .i64 p.dir, .bool a1, .bool a2, .slice b1 n1 j1, .slice b2 n2 j2, .slice b3 n3 j3, .int .i64 ac, .bool e1, .bool e2, .slice f1 m1 d1, .slice f2 m2 d2, .slice f3 m3 d3, .int .i64 ec].toArray 53) := by rw [← HCe]; exact HW1.out.1
      have k0 : W1.cell? ⟨wr.heap.size, 0, none⟩ = some (.int .i64 p.kind) := K.at_box (i := 0) hbx rfl
      have HBX : Hid (W1.heap[wr.heap.size]? = some (.cells [.int .i64 p.kind, .string nm, .slice so n0 sc, .int .i64 p.dir, .bool a1, .bool a2, .slice b1 n1 j1, .slice b2 n2 j2, .slice b3 n3 j3, .int .i64 ac, .bool e1, .bool e2, .slice f1 m1 d1, .slice f2 m2 d2, .slice f3 m3 d3, .int .i64 ec].toArray 53)) := hbx
      have hlsl : (Value.slice mo k mc).ownBlock.all (· < wr.heap.size) = true := by
        cases hob : (Value.slice mo k mc).ownBlock with
        | none => rfl
        | some g => simpa using (hown.lt g hob).2
      clear hck hone HI hown hA hB hr1 hbx HCe HP HC HR0
      by_cases h4 : p.kind = 4
      · rw [h4] at k0
        have HB2 : Hid (Below w.heap.size w W1) := HB.out.trans (HW1.out.2.mono (by omega))
        clear p4 p2 p0 HA HO HB HW1 HBX HK4 HTk HCe'
        as_aux_lemma =>
        go_wp2_with first
          | (refine wpList_load_mid rfl 53 (.tmp 16) rfl b (off + k * 16) rfl c _ hrg Try.underlying53 rfl hinf ?_)
          | (refine wpList_store_row rfl 53 (.tmp 5) (.tmp 17) rfl wr.heap.size c.toArray rfl rfl 53 _ hZ1 hinf2 hzs hc1 ?_; rw [← hW1.out])
          | fail
        go_ret
        exact ⟨rfl, HB2.out⟩
      · by_cases h2 : p.kind = 2
        · rw [h2] at k0
          obtain ⟨W2, hW2⟩ : ∃ W2, Hid (W2 = (W1.setCells wr.heap.size 4 (#[.bool e1, .bool e2, .slice f1 m1 d1, .slice f2 m2 d2, .slice f3 m3 d3, .int .i64 ec] : Array Value).toList)) := ⟨_, rfl⟩
          have x2 : W2.heap[wr.heap.size]? = some (.cells [.int .i64 p.kind, .string nm, .slice so n0 sc, .int .i64 p.dir, .bool e1, .bool e2, .slice f1 m1 d1, .slice f2 m2 d2, .slice f3 m3 d3, .int .i64 ec, .bool e1, .bool e2, .slice f1 m1 d1, .slice f2 m2 d2, .slice f3 m3 d3, .int .i64 ec].toArray 53) := by rw [hW2.out]; exact V.box6_4 HBX.out (.bool e1) (.bool e2) (.slice f1 m1 d1) (.slice f2 m2 d2) (.slice f3 m3 d3) (.int .i64 ec)
          have B2 : Below wr.heap.size wr W2 := by rw [hW2.out]; exact V.cells_below _ (Nat.le_refl _) _ _ _ HW1.out.2
          obtain ⟨W3, hW3⟩ : ∃ W3, Hid (W3 = (W2.setCells wr.heap.size 10 (#[.bool a1, .bool a2, .slice b1 n1 j1, .slice b2 n2 j2, .slice b3 n3 j3, .int .i64 ac] : Array Value).toList)) := ⟨_, rfl⟩
          have x3 : W3.heap[wr.heap.size]? = some (.cells [.int .i64 p.kind, .string nm, .slice so n0 sc, .int .i64 p.dir, .bool e1, .bool e2, .slice f1 m1 d1, .slice f2 m2 d2, .slice f3 m3 d3, .int .i64 ec, .bool a1, .bool a2, .slice b1 n1 j1, .slice b2 n2 j2, .slice b3 n3 j3, .int .i64 ac].toArray 53) := by rw [hW3.out]; exact V.box6_10 x2 (.bool a1) (.bool a2) (.slice b1 n1 j1) (.slice b2 n2 j2) (.slice b3 n3 j3) (.int .i64 ac)
          have B3 : Below wr.heap.size wr W3 := by rw [hW3.out]; exact V.cells_below _ (Nat.le_refl _) _ _ _ B2
          have q10 : W1.rangeAt wr.heap.size 10 [.bool e1, .bool e2, .slice f1 m1 d1, .slice f2 m2 d2, .slice f3 m3 d3, .int .i64 ec] := V.range_box HBX.out 10 _ fun j v hj => by
            match j, hj with
            | 0, hj => exact hj
            | 1, hj => exact hj
            | 2, hj => exact hj
            | 3, hj => exact hj
            | 4, hj => exact hj
            | 5, hj => exact hj
            | j + 6, hj => simp at hj
          have q4 : W1.rangeAt wr.heap.size 4 [.bool a1, .bool a2, .slice b1 n1 j1, .slice b2 n2 j2, .slice b3 n3 j3, .int .i64 ac] := V.range_box HBX.out 4 _ fun j v hj => by
            match j, hj with
            | 0, hj => exact hj
            | 1, hj => exact hj
            | 2, hj => exact hj
            | 3, hj => exact hj
            | 4, hj => exact hj
            | 5, hj => exact hj
            | j + 6, hj => simp at hj
          have t4 : W1.there wr.heap.size 4 6 := V.there_box HBX.out 4 6 (by simp)
          have t10 : W2.there wr.heap.size 10 6 := V.there_box x2 10 6 (by simp)
          have k3 : W3.cell? ⟨wr.heap.size, 3, none⟩ = some (.int .i64 p.dir) := K.at_box (i := 3) x3 rfl
          have kf : ∀ i, W3.frozen? ⟨wr.heap.size, i, none⟩ = false := fun i => frozen_of_row W3 _ _ _ _ x3
          by_cases hx : p.dir = 1
          · rw [hx] at k3
            obtain ⟨W4, hW4⟩ : ∃ W4, Hid (W4 = W3.setCell ⟨wr.heap.size, 3, none⟩ (.int .i64 2)) := ⟨_, rfl⟩
            have HF : Hid (W4.heap[wr.heap.size]? = some (.cells [.int .i64 p.kind, .string nm, .slice so n0 sc, .int .i64 2, .bool e1, .bool e2, .slice f1 m1 d1, .slice f2 m2 d2, .slice f3 m3 d3, .int .i64 ec, .bool a1, .bool a2, .slice b1 n1 j1, .slice b2 n2 j2, .slice b3 n3 j3, .int .i64 ac].toArray 53)) := by
              show W4.heap[wr.heap.size]? = _
              rw [hW4.out]; exact heap_setCell_same _ _ 3 _ _ _ x3
            have HBf : Hid (Below wr.heap.size wr W4) := by
              show Below wr.heap.size wr W4
              rw [hW4.out]; exact B3.setCell (p := ⟨wr.heap.size, 3, none⟩) (Nat.le_refl _) _
            have l3 := L.block_lt k3
            clear x2 x3 B2 B3
            obtain ⟨cf, hcf⟩ : ∃ cf, Hid (cf = ([.int .i64 p.kind, .string nm, .slice so n0 sc, .int .i64 2, .bool e1, .bool e2, .slice f1 m1 d1, .slice f2 m2 d2, .slice f3 m3 d3, .int .i64 ec, .bool a1, .bool a2, .slice b1 n1 j1, .slice b2 n2 j2, .slice b3 n3 j3, .int .i64 ac] : List Value)) := ⟨_, rfl⟩
            have hrf : W4.rangeAt wr.heap.size 0 cf := V.range_box (c := cf) (by rw [hcf.out]; exact HF.out) 0 cf fun j v hj => by rw [Nat.zero_add]; exact hj
            have hf16 : cf.length = 16 := by rw [hcf.out]; rfl
            have hff : (Try.prog.info? 53).map (·.size) = some cf.length := by rw [hf16]; kernel_rfl
            have hf1 : ∀ u ∈ cf, u.oneCell' = true := fun u hu => by
              rw [hcf.out] at hu
              simp only [List.mem_cons, List.not_mem_nil, or_false] at hu
              rcases hu with rfl | rfl | rfl | rfl | rfl | rfl | rfl | rfl | rfl | rfl | rfl | rfl | rfl | rfl | rfl | rfl <;> rfl
            have hbq := V.bs_list W4 cf hf16
            have HPn : Hid (V.PCs w (A ++ [cf]) ((l.take (k + 1)).map V.turn)) := by
              show V.PCs w (A ++ [cf]) ((l.take (k + 1)).map V.turn)
              rw [HTk.out]
              refine HA.out.snoc ⟨hf16, hf1⟩ ?_
              rw [hcf.out]
              have e := V.turn2 h2
              rw [hx] at p2 e
              rw [e]
              exact p2
            have sF := HBf.out.size
            have HO4 : Hid ((W4.alloc (.cells cf.toArray 53)).ownsRow w.heap.size 53 16 (.slice mo k mc) k A.flatten) := V.own_kept HO.out fun g hg => by
              have hg2 : g < wr.heap.size := (HO.out.lt g hg).2
              exact (Below.heap_alloc W4 _ g (by omega)).trans (HBf.out.block g hg2)
            have HB4 : Hid (Below w.heap.size w (W4.alloc (.cells cf.toArray 53))) := (HB.out.trans (HBf.out.mono hsb)).alloc (by omega) _
            have HCn : Hid (∀ (j : Nat) u, cf[j]? = some u → (W4.alloc (.cells cf.toArray 53)).cell? ((⟨W4.heap.size, 0, none⟩ : Addr).add j) = some u) := fun j u hj => by
              rw [L.addr_add, Nat.zero_add]
              exact K.at_box (heap_alloc_new W4 _) (by simpa using hj)
            have HK5 : Hid (∀ q ∈ l.take (k + 1), ¬ q.kind = 4) := HK4.out h4
            have HLt : Hid (∀ g, (Value.slice mo k mc).ownBlock = some g → w.heap.size ≤ g) := fun g hg => (HO.out.lt g hg).1
            clear p4 p2 p0 HA HB HF HBf HBX HK4 HTk HW1 HCe' HO
            as_aux_lemma =>
            go_wp2_with first
                  | (refine wpList_load_mid rfl 53 (.tmp 16) rfl b (off + k * 16) rfl c _ hrg Try.underlying53 rfl hinf ?_)
                  | (refine wpList_store_row rfl 53 (.tmp 5) (.tmp 17) rfl wr.heap.size c.toArray rfl rfl 53 _ hZ1 hinf2 hzs hc1 ?_; rw [← hW1.out])
                  | (refine wpList_load_mid rfl 51 (.tmp 24) rfl wr.heap.size 10 rfl [.bool e1, .bool e2, .slice f1 m1 d1, .slice f2 m2 d2, .slice f3 m3 d3, .int .i64 ec] _ q10 Try.underlying51 rfl (by kernel_rfl) ?_)
                  | (refine wpList_load_mid rfl 51 (.tmp 26) rfl wr.heap.size 4 rfl [.bool a1, .bool a2, .slice b1 n1 j1, .slice b2 n2 j2, .slice b3 n3 j3, .int .i64 ac] _ q4 Try.underlying51 rfl (by kernel_rfl) ?_)
                  | (refine wpList_store_mid rfl 51 (.tmp 28) (.tmp 25) rfl wr.heap.size 4 #[.bool e1, .bool e2, .slice f1 m1 d1, .slice f2 m2 d2, .slice f3 m3 d3, .int .i64 ec] rfl rfl t4 (by kernel_rfl) (by simp [Value.oneCell']) ?_; rw [← hW2.out])
                  | (refine wpList_store_mid rfl 51 (.tmp 29) (.tmp 27) rfl wr.heap.size 10 #[.bool a1, .bool a2, .slice b1 n1 j1, .slice b2 n2 j2, .slice b3 n3 j3, .int .i64 ac] rfl rfl t10 (by kernel_rfl) (by simp [Value.oneCell']) ?_; rw [← hW3.out])
                  | (rw [← hW4.out]; refine wpList_load_mid rfl 53 (.tmp 5) rfl wr.heap.size 0 rfl cf _ hrf Try.underlying53 rfl hff ?_)
                  | (refine V.list_bs rfl 39 1 (.tmp 43) rfl (.agg cf.toArray) rfl _ hbq ?_)
                  | (at_builtin; refine wpList_append_own _ rfl _ _ 39 rfl w.heap.size 53 i0 _ 16 232 Try.underlying39 hi hz0 hz1 hz2 rfl (by decide) _ k A.flatten rfl HO4.out ⟨W4.heap.size, 0, none⟩ 1 1 cf rfl (by rw [hf16]) HCn.out hf1 (by unfold maxLen; omega) (by omega) (by simp; omega) ?_; intro v5 w5 o5 g5 n5)
                  | fail
            have HB5 : Hid (Below w.heap.size w w5) := HB4.out.grown g5 (by simp; omega) HLt.out
            obtain ⟨vo5, vc5, hv5⟩ : ∃ vo vc, v5 = .slice vo (k + 1) vc := by
              rcases o5.2 with ⟨_, h0⟩ | ⟨g, cap, cur, e, _⟩
              · omega
              · exact ⟨_, _, e⟩
            subst hv5
            have HO5 : Hid (w5.ownsRow w.heap.size 53 16 (.slice vo5 (k + 1) vc5) (k + 1) (A ++ [cf]).flatten) := by
              show w5.ownsRow w.heap.size 53 16 (.slice vo5 (k + 1) vc5) (k + 1) (A ++ [cf]).flatten
              rw [List.flatten_append]; simpa using o5
            clear o5 g5 n5 hbq hrf hrg
            go_wp2
            go_roundw
            case rel => exact ⟨k + 1, vo5, vc5, A ++ [cf], by omega, by go_num, rfl, HO5.out, HPn.out, HB5.out, HK5.out⟩
            case measure => simp [RowKit.intOf]; omega
          · by_cases hy : p.dir = 2
            · rw [hy] at k3
              obtain ⟨W4, hW4⟩ : ∃ W4, Hid (W4 = W3.setCell ⟨wr.heap.size, 3, none⟩ (.int .i64 1)) := ⟨_, rfl⟩
              have HF : Hid (W4.heap[wr.heap.size]? = some (.cells [.int .i64 p.kind, .string nm, .slice so n0 sc, .int .i64 1, .bool e1, .bool e2, .slice f1 m1 d1, .slice f2 m2 d2, .slice f3 m3 d3, .int .i64 ec, .bool a1, .bool a2, .slice b1 n1 j1, .slice b2 n2 j2, .slice b3 n3 j3, .int .i64 ac].toArray 53)) := by
                show W4.heap[wr.heap.size]? = _
                rw [hW4.out]; exact heap_setCell_same _ _ 3 _ _ _ x3
              have HBf : Hid (Below wr.heap.size wr W4) := by
                show Below wr.heap.size wr W4
                rw [hW4.out]; exact B3.setCell (p := ⟨wr.heap.size, 3, none⟩) (Nat.le_refl _) _
              have l3 := L.block_lt k3
              clear x2 x3 B2 B3
              obtain ⟨cf, hcf⟩ : ∃ cf, Hid (cf = ([.int .i64 p.kind, .string nm, .slice so n0 sc, .int .i64 1, .bool e1, .bool e2, .slice f1 m1 d1, .slice f2 m2 d2, .slice f3 m3 d3, .int .i64 ec, .bool a1, .bool a2, .slice b1 n1 j1, .slice b2 n2 j2, .slice b3 n3 j3, .int .i64 ac] : List Value)) := ⟨_, rfl⟩
              have hrf : W4.rangeAt wr.heap.size 0 cf := V.range_box (c := cf) (by rw [hcf.out]; exact HF.out) 0 cf fun j v hj => by rw [Nat.zero_add]; exact hj
              have hf16 : cf.length = 16 := by rw [hcf.out]; rfl
              have hff : (Try.prog.info? 53).map (·.size) = some cf.length := by rw [hf16]; kernel_rfl
              have hf1 : ∀ u ∈ cf, u.oneCell' = true := fun u hu => by
                rw [hcf.out] at hu
                simp only [List.mem_cons, List.not_mem_nil, or_false] at hu
                rcases hu with rfl | rfl | rfl | rfl | rfl | rfl | rfl | rfl | rfl | rfl | rfl | rfl | rfl | rfl | rfl | rfl <;> rfl
              have hbq := V.bs_list W4 cf hf16
              have HPn : Hid (V.PCs w (A ++ [cf]) ((l.take (k + 1)).map V.turn)) := by
                show V.PCs w (A ++ [cf]) ((l.take (k + 1)).map V.turn)
                rw [HTk.out]
                refine HA.out.snoc ⟨hf16, hf1⟩ ?_
                rw [hcf.out]
                have e := V.turn2 h2
                rw [hy] at p2 e
                rw [e]
                exact p2
              have sF := HBf.out.size
              have HO4 : Hid ((W4.alloc (.cells cf.toArray 53)).ownsRow w.heap.size 53 16 (.slice mo k mc) k A.flatten) := V.own_kept HO.out fun g hg => by
                have hg2 : g < wr.heap.size := (HO.out.lt g hg).2
                exact (Below.heap_alloc W4 _ g (by omega)).trans (HBf.out.block g hg2)
              have HB4 : Hid (Below w.heap.size w (W4.alloc (.cells cf.toArray 53))) := (HB.out.trans (HBf.out.mono hsb)).alloc (by omega) _
              have HCn : Hid (∀ (j : Nat) u, cf[j]? = some u → (W4.alloc (.cells cf.toArray 53)).cell? ((⟨W4.heap.size, 0, none⟩ : Addr).add j) = some u) := fun j u hj => by
                rw [L.addr_add, Nat.zero_add]
                exact K.at_box (heap_alloc_new W4 _) (by simpa using hj)
              have HK5 : Hid (∀ q ∈ l.take (k + 1), ¬ q.kind = 4) := HK4.out h4
              have HLt : Hid (∀ g, (Value.slice mo k mc).ownBlock = some g → w.heap.size ≤ g) := fun g hg => (HO.out.lt g hg).1
              clear p4 p2 p0 HA HB HF HBf HBX HK4 HTk HW1 HCe' HO
              as_aux_lemma =>
              go_wp2_with first
                    | (refine wpList_load_mid rfl 53 (.tmp 16) rfl b (off + k * 16) rfl c _ hrg Try.underlying53 rfl hinf ?_)
                    | (refine wpList_store_row rfl 53 (.tmp 5) (.tmp 17) rfl wr.heap.size c.toArray rfl rfl 53 _ hZ1 hinf2 hzs hc1 ?_; rw [← hW1.out])
                    | (refine wpList_load_mid rfl 51 (.tmp 24) rfl wr.heap.size 10 rfl [.bool e1, .bool e2, .slice f1 m1 d1, .slice f2 m2 d2, .slice f3 m3 d3, .int .i64 ec] _ q10 Try.underlying51 rfl (by kernel_rfl) ?_)
                    | (refine wpList_load_mid rfl 51 (.tmp 26) rfl wr.heap.size 4 rfl [.bool a1, .bool a2, .slice b1 n1 j1, .slice b2 n2 j2, .slice b3 n3 j3, .int .i64 ac] _ q4 Try.underlying51 rfl (by kernel_rfl) ?_)
                    | (refine wpList_store_mid rfl 51 (.tmp 28) (.tmp 25) rfl wr.heap.size 4 #[.bool e1, .bool e2, .slice f1 m1 d1, .slice f2 m2 d2, .slice f3 m3 d3, .int .i64 ec] rfl rfl t4 (by kernel_rfl) (by simp [Value.oneCell']) ?_; rw [← hW2.out])
                    | (refine wpList_store_mid rfl 51 (.tmp 29) (.tmp 27) rfl wr.heap.size 10 #[.bool a1, .bool a2, .slice b1 n1 j1, .slice b2 n2 j2, .slice b3 n3 j3, .int .i64 ac] rfl rfl t10 (by kernel_rfl) (by simp [Value.oneCell']) ?_; rw [← hW3.out])
                    | (rw [← hW4.out]; refine wpList_load_mid rfl 53 (.tmp 5) rfl wr.heap.size 0 rfl cf _ hrf Try.underlying53 rfl hff ?_)
                    | (refine V.list_bs rfl 39 1 (.tmp 43) rfl (.agg cf.toArray) rfl _ hbq ?_)
                    | (at_builtin; refine wpList_append_own _ rfl _ _ 39 rfl w.heap.size 53 i0 _ 16 232 Try.underlying39 hi hz0 hz1 hz2 rfl (by decide) _ k A.flatten rfl HO4.out ⟨W4.heap.size, 0, none⟩ 1 1 cf rfl (by rw [hf16]) HCn.out hf1 (by unfold maxLen; omega) (by omega) (by simp; omega) ?_; intro v5 w5 o5 g5 n5)
                    | fail
              have HB5 : Hid (Below w.heap.size w w5) := HB4.out.grown g5 (by simp; omega) HLt.out
              obtain ⟨vo5, vc5, hv5⟩ : ∃ vo vc, v5 = .slice vo (k + 1) vc := by
                rcases o5.2 with ⟨_, h0⟩ | ⟨g, cap, cur, e, _⟩
                · omega
                · exact ⟨_, _, e⟩
              subst hv5
              have HO5 : Hid (w5.ownsRow w.heap.size 53 16 (.slice vo5 (k + 1) vc5) (k + 1) (A ++ [cf]).flatten) := by
                show w5.ownsRow w.heap.size 53 16 (.slice vo5 (k + 1) vc5) (k + 1) (A ++ [cf]).flatten
                rw [List.flatten_append]; simpa using o5
              clear o5 g5 n5 hbq hrf hrg
              go_wp2
              go_roundw
              case rel => exact ⟨k + 1, vo5, vc5, A ++ [cf], by omega, by go_num, rfl, HO5.out, HPn.out, HB5.out, HK5.out⟩
              case measure => simp [RowKit.intOf]; omega
            · have HF : Hid (W3.heap[wr.heap.size]? = some (.cells [.int .i64 p.kind, .string nm, .slice so n0 sc, .int .i64 p.dir, .bool e1, .bool e2, .slice f1 m1 d1, .slice f2 m2 d2, .slice f3 m3 d3, .int .i64 ec, .bool a1, .bool a2, .slice b1 n1 j1, .slice b2 n2 j2, .slice b3 n3 j3, .int .i64 ac].toArray 53)) := x3
              have HBf : Hid (Below wr.heap.size wr W3) := B3
              have hx1 : (p.dir == 1) = false := by simpa using hx
              have hy1 : (p.dir == 2) = false := by simpa using hy
              clear x2 x3 B2 B3
              obtain ⟨cf, hcf⟩ : ∃ cf, Hid (cf = ([.int .i64 p.kind, .string nm, .slice so n0 sc, .int .i64 p.dir, .bool e1, .bool e2, .slice f1 m1 d1, .slice f2 m2 d2, .slice f3 m3 d3, .int .i64 ec, .bool a1, .bool a2, .slice b1 n1 j1, .slice b2 n2 j2, .slice b3 n3 j3, .int .i64 ac] : List Value)) := ⟨_, rfl⟩
              have hrf : W3.rangeAt wr.heap.size 0 cf := V.range_box (c := cf) (by rw [hcf.out]; exact HF.out) 0 cf fun j v hj => by rw [Nat.zero_add]; exact hj
              have hf16 : cf.length = 16 := by rw [hcf.out]; rfl
              have hff : (Try.prog.info? 53).map (·.size) = some cf.length := by rw [hf16]; kernel_rfl
              have hf1 : ∀ u ∈ cf, u.oneCell' = true := fun u hu => by
                rw [hcf.out] at hu
                simp only [List.mem_cons, List.not_mem_nil, or_false] at hu
                rcases hu with rfl | rfl | rfl | rfl | rfl | rfl | rfl | rfl | rfl | rfl | rfl | rfl | rfl | rfl | rfl | rfl <;> rfl
              have hbq := V.bs_list W3 cf hf16
              have HPn : Hid (V.PCs w (A ++ [cf]) ((l.take (k + 1)).map V.turn)) := by
                show V.PCs w (A ++ [cf]) ((l.take (k + 1)).map V.turn)
                rw [HTk.out]
                refine HA.out.snoc ⟨hf16, hf1⟩ ?_
                rw [hcf.out]
                have e : V.against p.dir = p.dir := by unfold V.against; rw [if_neg hx, if_neg hy]
                rw [V.turn2 h2]
                rw [e] at p2 ⊢
                exact p2
              have sF := HBf.out.size
              have HO4 : Hid ((W3.alloc (.cells cf.toArray 53)).ownsRow w.heap.size 53 16 (.slice mo k mc) k A.flatten) := V.own_kept HO.out fun g hg => by
                have hg2 : g < wr.heap.size := (HO.out.lt g hg).2
                exact (Below.heap_alloc W3 _ g (by omega)).trans (HBf.out.block g hg2)
              have HB4 : Hid (Below w.heap.size w (W3.alloc (.cells cf.toArray 53))) := (HB.out.trans (HBf.out.mono hsb)).alloc (by omega) _
              have HCn : Hid (∀ (j : Nat) u, cf[j]? = some u → (W3.alloc (.cells cf.toArray 53)).cell? ((⟨W3.heap.size, 0, none⟩ : Addr).add j) = some u) := fun j u hj => by
                rw [L.addr_add, Nat.zero_add]
                exact K.at_box (heap_alloc_new W3 _) (by simpa using hj)
              have HK5 : Hid (∀ q ∈ l.take (k + 1), ¬ q.kind = 4) := HK4.out h4
              have HLt : Hid (∀ g, (Value.slice mo k mc).ownBlock = some g → w.heap.size ≤ g) := fun g hg => (HO.out.lt g hg).1
              clear p4 p2 p0 HA HB HF HBf HBX HK4 HTk HW1 HCe' HO
              as_aux_lemma =>
              go_wp2_with first
                    | (refine wpList_load_mid rfl 53 (.tmp 16) rfl b (off + k * 16) rfl c _ hrg Try.underlying53 rfl hinf ?_)
                    | (refine wpList_store_row rfl 53 (.tmp 5) (.tmp 17) rfl wr.heap.size c.toArray rfl rfl 53 _ hZ1 hinf2 hzs hc1 ?_; rw [← hW1.out])
                    | (refine wpList_load_mid rfl 51 (.tmp 24) rfl wr.heap.size 10 rfl [.bool e1, .bool e2, .slice f1 m1 d1, .slice f2 m2 d2, .slice f3 m3 d3, .int .i64 ec] _ q10 Try.underlying51 rfl (by kernel_rfl) ?_)
                    | (refine wpList_load_mid rfl 51 (.tmp 26) rfl wr.heap.size 4 rfl [.bool a1, .bool a2, .slice b1 n1 j1, .slice b2 n2 j2, .slice b3 n3 j3, .int .i64 ac] _ q4 Try.underlying51 rfl (by kernel_rfl) ?_)
                    | (refine wpList_store_mid rfl 51 (.tmp 28) (.tmp 25) rfl wr.heap.size 4 #[.bool e1, .bool e2, .slice f1 m1 d1, .slice f2 m2 d2, .slice f3 m3 d3, .int .i64 ec] rfl rfl t4 (by kernel_rfl) (by simp [Value.oneCell']) ?_; rw [← hW2.out])
                    | (refine wpList_store_mid rfl 51 (.tmp 29) (.tmp 27) rfl wr.heap.size 10 #[.bool a1, .bool a2, .slice b1 n1 j1, .slice b2 n2 j2, .slice b3 n3 j3, .int .i64 ac] rfl rfl t10 (by kernel_rfl) (by simp [Value.oneCell']) ?_; rw [← hW3.out])
                    | (refine wpList_load_mid rfl 53 (.tmp 5) rfl wr.heap.size 0 rfl cf _ hrf Try.underlying53 rfl hff ?_)
                    | (refine V.list_bs rfl 39 1 (.tmp 43) rfl (.agg cf.toArray) rfl _ hbq ?_)
                    | (at_builtin; refine wpList_append_own _ rfl _ _ 39 rfl w.heap.size 53 i0 _ 16 232 Try.underlying39 hi hz0 hz1 hz2 rfl (by decide) _ k A.flatten rfl HO4.out ⟨W3.heap.size, 0, none⟩ 1 1 cf rfl (by rw [hf16]) HCn.out hf1 (by unfold maxLen; omega) (by omega) (by simp; omega) ?_; intro v5 w5 o5 g5 n5)
                    | fail
              have HB5 : Hid (Below w.heap.size w w5) := HB4.out.grown g5 (by simp; omega) HLt.out
              obtain ⟨vo5, vc5, hv5⟩ : ∃ vo vc, v5 = .slice vo (k + 1) vc := by
                rcases o5.2 with ⟨_, h0⟩ | ⟨g, cap, cur, e, _⟩
                · omega
                · exact ⟨_, _, e⟩
              subst hv5
              have HO5 : Hid (w5.ownsRow w.heap.size 53 16 (.slice vo5 (k + 1) vc5) (k + 1) (A ++ [cf]).flatten) := by
                show w5.ownsRow w.heap.size 53 16 (.slice vo5 (k + 1) vc5) (k + 1) (A ++ [cf]).flatten
                rw [List.flatten_append]; simpa using o5
              clear o5 g5 n5 hbq hrf hrg
              go_wp2
              go_roundw
              case rel => exact ⟨k + 1, vo5, vc5, A ++ [cf], by omega, by go_num, rfl, HO5.out, HPn.out, HB5.out, HK5.out⟩
              case measure => simp [RowKit.intOf]; omega
        · have HF : Hid (W1.heap[wr.heap.size]? = some (.cells [.int .i64 p.kind, .string nm, .slice so n0 sc, .int .i64 p.dir, .bool a1, .bool a2, .slice b1 n1 j1, .slice b2 n2 j2, .slice b3 n3 j3, .int .i64 ac, .bool e1, .bool e2, .slice f1 m1 d1, .slice f2 m2 d2, .slice f3 m3 d3, .int .i64 ec].toArray 53)) := HBX.out
          have HBf : Hid (Below wr.heap.size wr W1) := HW1.out.2
          obtain ⟨cf, hcf⟩ : ∃ cf, Hid (cf = ([.int .i64 p.kind, .string nm, .slice so n0 sc, .int .i64 p.dir, .bool a1, .bool a2, .slice b1 n1 j1, .slice b2 n2 j2, .slice b3 n3 j3, .int .i64 ac, .bool e1, .bool e2, .slice f1 m1 d1, .slice f2 m2 d2, .slice f3 m3 d3, .int .i64 ec] : List Value)) := ⟨_, rfl⟩
          have hrf : W1.rangeAt wr.heap.size 0 cf := V.range_box (c := cf) (by rw [hcf.out]; exact HF.out) 0 cf fun j v hj => by rw [Nat.zero_add]; exact hj
          have hf16 : cf.length = 16 := by rw [hcf.out]; rfl
          have hff : (Try.prog.info? 53).map (·.size) = some cf.length := by rw [hf16]; kernel_rfl
          have hf1 : ∀ u ∈ cf, u.oneCell' = true := fun u hu => by
            rw [hcf.out] at hu
            simp only [List.mem_cons, List.not_mem_nil, or_false] at hu
            rcases hu with rfl | rfl | rfl | rfl | rfl | rfl | rfl | rfl | rfl | rfl | rfl | rfl | rfl | rfl | rfl | rfl <;> rfl
          have hbq := V.bs_list W1 cf hf16
          have HPn : Hid (V.PCs w (A ++ [cf]) ((l.take (k + 1)).map V.turn)) := by
            show V.PCs w (A ++ [cf]) ((l.take (k + 1)).map V.turn)
            rw [HTk.out]
            refine HA.out.snoc ⟨hf16, hf1⟩ ?_
            rw [hcf.out]
            rw [V.turn0 h4 h2]
            exact p0
          have sF := HBf.out.size
          have HO4 : Hid ((W1.alloc (.cells cf.toArray 53)).ownsRow w.heap.size 53 16 (.slice mo k mc) k A.flatten) := V.own_kept HO.out fun g hg => by
            have hg2 : g < wr.heap.size := (HO.out.lt g hg).2
            exact (Below.heap_alloc W1 _ g (by omega)).trans (HBf.out.block g hg2)
          have HB4 : Hid (Below w.heap.size w (W1.alloc (.cells cf.toArray 53))) := (HB.out.trans (HBf.out.mono hsb)).alloc (by omega) _
          have HCn : Hid (∀ (j : Nat) u, cf[j]? = some u → (W1.alloc (.cells cf.toArray 53)).cell? ((⟨W1.heap.size, 0, none⟩ : Addr).add j) = some u) := fun j u hj => by
            rw [L.addr_add, Nat.zero_add]
            exact K.at_box (heap_alloc_new W1 _) (by simpa using hj)
          have HK5 : Hid (∀ q ∈ l.take (k + 1), ¬ q.kind = 4) := HK4.out h4
          have HLt : Hid (∀ g, (Value.slice mo k mc).ownBlock = some g → w.heap.size ≤ g) := fun g hg => (HO.out.lt g hg).1
          clear p4 p2 p0 HA HB HF HBf HBX HK4 HTk HW1 HCe' HO
          as_aux_lemma =>
          go_wp2_with first
                | (refine wpList_load_mid rfl 53 (.tmp 16) rfl b (off + k * 16) rfl c _ hrg Try.underlying53 rfl hinf ?_)
                | (refine wpList_store_row rfl 53 (.tmp 5) (.tmp 17) rfl wr.heap.size c.toArray rfl rfl 53 _ hZ1 hinf2 hzs hc1 ?_; rw [← hW1.out])
                | (refine wpList_load_mid rfl 53 (.tmp 5) rfl wr.heap.size 0 rfl cf _ hrf Try.underlying53 rfl hff ?_)
                | (refine V.list_bs rfl 39 1 (.tmp 43) rfl (.agg cf.toArray) rfl _ hbq ?_)
                | (at_builtin; refine wpList_append_own _ rfl _ _ 39 rfl w.heap.size 53 i0 _ 16 232 Try.underlying39 hi hz0 hz1 hz2 rfl (by decide) _ k A.flatten rfl HO4.out ⟨W1.heap.size, 0, none⟩ 1 1 cf rfl (by rw [hf16]) HCn.out hf1 (by unfold maxLen; omega) (by omega) (by simp; omega) ?_; intro v5 w5 o5 g5 n5)
                | fail
          have HB5 : Hid (Below w.heap.size w w5) := HB4.out.grown g5 (by simp; omega) HLt.out
          obtain ⟨vo5, vc5, hv5⟩ : ∃ vo vc, v5 = .slice vo (k + 1) vc := by
            rcases o5.2 with ⟨_, h0⟩ | ⟨g, cap, cur, e, _⟩
            · omega
            · exact ⟨_, _, e⟩
          subst hv5
          have HO5 : Hid (w5.ownsRow w.heap.size 53 16 (.slice vo5 (k + 1) vc5) (k + 1) (A ++ [cf]).flatten) := by
            show w5.ownsRow w.heap.size 53 16 (.slice vo5 (k + 1) vc5) (k + 1) (A ++ [cf]).flatten
            rw [List.flatten_append]; simpa using o5
          clear o5 g5 n5 hbq hrf hrg
          go_wp2
          go_roundw
          case rel => exact ⟨k + 1, vo5, vc5, A ++ [cf], by omega, by go_num, rfl, HO5.out, HPn.out, HB5.out, HK5.out⟩
          case measure => simp [RowKit.intOf]; omega
    · have hkl : l.take k = l := List.take_of_length_le (by omega)
      have hkk : k = l.length := by omega
      subst hkk
      obtain ⟨hown, hA, hB, h4⟩ := HI.out
      rw [hkl] at hA h4
      have hm : R.Pts wr (.slice mo l.length mc) (l.map V.turn) := V.own_pts hA hB (by simpa using hown)
      have hb := back_any wr _ l (HR0.out.below hB)
      obtain ⟨hz, hsame⟩ := V.turned_same h4
      obtain ⟨⟨bs, be, ba⟩, hbf⟩ : ∃ o, V.backF l = o := ⟨_, rfl⟩
      obtain ⟨⟨fs, fe, fa⟩, hff⟩ : ∃ o, V.forthF (l.map V.turn) = o := ⟨_, rfl⟩
      rw [hbf] at hb hz hsame
      rw [hff] at hz hsame
      simp only at hb hz hsame
      have HF : Hid (∀ W, Below wr.heap.size wr W → Calls Try.prog 16 #[.slice mo l.length mc] W fun e w' => ∃ v', e = .returned (.tuple #[v', .agg #[.int .i64 fe, .int .i64 (fa : Nat)]]) ∧ V.ScIs w' v' fs ∧ Below W.heap.size W w') := fun W hW => by
        have h := forth_any W _ (l.map V.turn) (hm.below hW)
        rw [hff] at h
        exact h
      have HBk : Hid (Calls Try.prog 19 #[.slice lo l.length lcap] wr fun e w' => ∃ v', e = .returned (.tuple #[v', .agg #[.int .i64 be, .int .i64 (ba : Nat)]]) ∧ V.ScIs w' v' bs ∧ Below wr.heap.size wr w') := hb
      have HS : Hid ((be = 0 ↔ fe = 0) ∧ (be = 0 → bs = fs ∧ ∀ p ∈ fs.passes, V.SmallP p)) := ⟨hz, hsame⟩
      have HB : Hid (Below w.heap.size w wr) := hB
      clear hown hA hB h4 hm hb hz hsame hbf hff HI HR0 HP HC hkl
      go_wp2_with fail
      refine HBk.out.mono ?_
      rintro e w2 ⟨va, rfl, ha, b2⟩
      have hsa := ha
      obtain ⟨oo, oc, po, pc, rfl, _⟩ := hsa
      obtain ⟨w3, hw3⟩ : ∃ w3, w3 = (w2.alloc (.cells #[.bool bs.has, .slice oo bs.only.length oc, .slice po bs.passes.length pc] 43)).alloc (.cells #[.int .i64 be, .int .i64 (ba : Nat)] 26) := ⟨_, rfl⟩
      obtain ⟨y1, y2, y3, y4⟩ := K.two_boxes (w := w2) (o1 := .cells #[.bool bs.has, .slice oo bs.only.length oc, .slice po bs.passes.length pc] 43) (o2 := .cells #[.int .i64 be, .int .i64 (ba : Nat)] 26) (w1 := w3) (by rw [hw3]; exact Below.refl _ _)
      have s2 := b2.size
      have hsw := HB.out.size
      have b3 : Below wr.heap.size wr w3 := b2.trans (y3.mono (by omega))
      have HF3 : Hid (Calls Try.prog 16 #[.slice mo l.length mc] w3 fun e w' => ∃ v', e = .returned (.tuple #[v', .agg #[.int .i64 fe, .int .i64 (fa : Nat)]]) ∧ V.ScIs w' v' fs ∧ Below w3.heap.size w3 w') := HF.out w3 b3
      have HX3 : Hid (V.ScIs w3 (.agg #[.bool bs.has, .slice oo bs.only.length oc, .slice po bs.passes.length pc]) bs ∧ w3.heap[w2.heap.size]? = some (.cells #[.bool bs.has, .slice oo bs.only.length oc, .slice po bs.passes.length pc] 43) ∧ w3.heap[w2.heap.size + 1]? = some (.cells #[.int .i64 be, .int .i64 (ba : Nat)] 26) ∧ Below w.heap.size w w3) := ⟨ha.below y3, y1, y2, HB.out.trans (b3.mono (by omega))⟩
      clear ha b2 y1 y2 y3 b3 HF HBk HB
      go_wp2_with fail
      rw [← hw3]
      refine HF3.out.mono ?_
      rintro e w4 ⟨vb, rfl, hb, b4⟩
      have hsb := hb
      obtain ⟨o2, c2, q2, r2, rfl, _⟩ := hsb
      clear hw3 HF3
      obtain ⟨w5, hw5⟩ : ∃ w5, w5 = (w4.alloc (.cells #[.bool fs.has, .slice o2 fs.only.length c2, .slice q2 fs.passes.length r2] 43)).alloc (.cells #[.int .i64 fe, .int .i64 (fa : Nat)] 26) := ⟨_, rfl⟩
      obtain ⟨y1, y2, y3, y4'⟩ := K.two_boxes (w := w4) (o1 := .cells #[.bool fs.has, .slice o2 fs.only.length c2, .slice q2 fs.passes.length r2] 43) (o2 := .cells #[.int .i64 fe, .int .i64 (fa : Nat)] 26) (w1 := w5) (by rw [hw5]; exact Below.refl _ _)
      have s4 := b4.size
      obtain ⟨hsa, x1, x2, bw⟩ := HX3.out
      have b5 : Below w3.heap.size w3 w5 := b4.trans (y3.mono (by omega))
      have z1 := (b5.block _ (by omega)).trans x1
      have z2 := (b5.block _ (by omega)).trans x2
      obtain ⟨g0, g1, g2, _, _, _⟩ := V.box3 z1
      obtain ⟨h0, h1, _, _⟩ := V.box2 z2
      obtain ⟨i0', i1, i2, _, _, _⟩ := V.box3 y1
      obtain ⟨j0, j1, _, _⟩ := V.box2 y2
      have sw := bw.size
      have HBn : Hid (Below w.heap.size w w5) := bw.trans (b5.mono (by omega))
      have HSm : Hid (be = 0 → Calls Try.prog 18 #[.agg #[.bool bs.has, .slice oo bs.only.length oc, .slice po bs.passes.length pc], .agg #[.bool fs.has, .slice o2 fs.only.length c2, .slice q2 fs.passes.length r2]] w5 fun e w' => e = .returned (.bool true) ∧ Below w5.heap.size w5 w') := fun h => by
        obtain ⟨e1, e2⟩ := HS.out.2 h
        have r1 := hsa.below b5
        have r2 := hb.below y3
        rw [e1] at r1 ⊢
        exact vscript_eq w5 _ _ fs r1 r2 e2
      subst hw5
      clear HX3 hb b4 y1 y2 y3 hsa x1 x2 bw b5 z1 z2
      by_cases hz : be = 0
      · have hz2 : fe = 0 := HS.out.1.1 hz
        have HSm2 := HSm.out hz
        subst hz hz2
        clear HSm HS
        go_wp2_with fail
        refine HSm2.mono ?_
        rintro e w6 ⟨rfl, b6⟩
        go_wp2
        go_ret
        exact ⟨rfl, HBn.out.trans (b6.mono (by have := HBn.out.size; omega))⟩
      · have hz2 : ¬ fe = 0 := fun e => hz (HS.out.1.2 e)
        have e1 : (be == 0) = false := by simpa using hz
        have e2 : (fe == 0) = false := by simpa using hz2
        clear HSm HS
        go_wp2
        go_ret
        exact ⟨by simp [e1, e2, hz, hz2], HBn.out⟩

end Go.Proofs.Ytchkcjaahjhbcaa
