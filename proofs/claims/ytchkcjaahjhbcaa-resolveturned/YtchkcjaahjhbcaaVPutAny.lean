/-
  What resolve.put does with passes.
-/
import Derived.Test.YtchkcjaahjhbcaaVPass
import Derived.Test.YtchkcjaahjhbcaaVRule
import Derived.BigRegion
import Derived.Deep.RegionLaw
import Derived.RegionTactic
import Derived.Lib.Walk
import Derived.Lib.AppendZeros
namespace Go.Proofs.Ytchkcjaahjhbcaa
open Go.RowKit
set_option maxRecDepth 20000
set_option linter.unusedSimpArgs false
set_option linter.unusedVariables false

/-- append, by its run, at a step of a region that draws its order -/
theorem V.step_run {t : TypeId} {ops : Array Oper} {o : Oper} {a : Act} {w : World} {K : Act → World → Prop} {Q : Exit → Act → World → Prop} {E : Prop} (hgd : o.guard = none) (s x : Operand)
    (ho : o.op = .call { callee := .builtin .append, args := #[s, x], argTypes := #[t, t] }) (v vx v' : Value) (w' : World) (hs : a.eval s = v) (hx : a.eval x = vx)
    (hrun : ∀ ty, (Builtin.append_ #[t, t] ty #[v, vx]).run Try.prog w = .ok v' w') (h : K (a.put o.dst v') w') :
    if Region.wanted o (yielded ops a.tmps) = true then Oper.wp Try.prog o a w K Q else E := by
  have hw : Region.wanted o (yielded ops a.tmps) = true := by simp [Region.wanted, hgd]
  rw [if_pos hw]
  unfold Oper.wp
  simp [execOp, ho, resolve, invoke, builtin, hs, hx, hrun, Result.andThen]
  exact h

set_option maxHeartbeats 8000000 in
/-- the last pass is one of rules -/
theorem putp_open (F : Nat) (w : World) (tops : List Nat) (init : List V.Pass) (p : V.Pass) (rvi : List Value) (rv : Value) (X cap : Nat) (h : V.PS F tops w (.slice (some ⟨X, 0, none⟩) (init.length + 1) cap) (init ++ [p]) (rvi ++ [rv])) (hli : rvi.length = init.length) (hnm : p.name = ⟨#[]⟩) (r : K.Rule) (bo : Option Addr) (bc : Nat) (so : Option Addr) (sc : Nat) (ao : Option Addr) (ac : Nat) (ta : Option Addr) (tc : Nat) (hL : V.Leaf tops w fun W => K.RuIs W (.agg #[.bool r.start, .bool r.fin, .slice bo r.before.length bc, .slice so r.source.length sc, .slice ao r.after.length ac, .slice ta r.target.length tc, .int .i64 r.cursor]) r) (hF : F ≤ w.heap.size) (hrl : p.rules.length ≤ 1000) (hil : init.length ≤ 1000) :
    Calls Try.prog 56 #[.slice (some ⟨X, 0, none⟩) (init.length + 1) cap, .agg #[.bool r.start, .bool r.fin, .slice bo r.before.length bc, .slice so r.source.length sc, .slice ao r.after.length ac, .slice ta r.target.length tc, .int .i64 r.cursor]] w fun e w' => e = .returned (.slice (some ⟨X, 0, none⟩) (init.length + 1) cap) ∧ (∃ tops' rv', V.PS F tops' w' (.slice (some ⟨X, 0, none⟩) (init.length + 1) cap) (init ++ [⟨p.name, p.rules ++ [r]⟩]) (rvi ++ [rv']) ∧ V.Moves tops w tops' w') ∧ Below F w w' := by
  obtain ⟨wq, hwq⟩ : ∃ wq, wq = w.alloc (.cells #[.bool r.start, .bool r.fin, .slice bo r.before.length bc, .slice so r.source.length sc, .slice ao r.after.length ac, .slice ta r.target.length tc, .int .i64 r.cursor] 65) := ⟨_, rfl⟩
  have hb0 : Below w.heap.size w wq := by rw [hwq]; exact (Below.refl _ w).alloc (Nat.le_refl _) _
  have PQ := h.below hb0
  have LQ := hL.step (tops' := tops) hb0.size (fun b hb _ => hb0.block b hb) fun k hk => .inl hk
  have hbox : wq.heap[w.heap.size]? = some (.cells #[.bool r.start, .bool r.fin, .slice bo r.before.length bc, .slice so r.source.length sc, .slice ao r.after.length ac, .slice ta r.target.length tc, .int .i64 r.cursor] 65) := by rw [hwq]; exact heap_alloc_new w _
  have hFq : F ≤ wq.heap.size := Nat.le_trans hF hb0.size
  have hBq : Below F w wq := hb0.mono hF
  have hMq : V.Moves tops w tops wq := V.Moves.of_below hb0
  obtain ⟨nm0, _⟩ := h.cells hli
  rw [hnm] at nm0
  have dn : ∀ o, (w.alloc o).cell? ⟨X, init.length * 2, none⟩ = some (.string ⟨#[]⟩) := fun o => by
    have e : (w.alloc o).heap[X]? = w.heap[X]? := Below.heap_alloc w o X (L.block_lt nm0)
    rw [World.cell?_of_block (a := ⟨X, init.length * 2, none⟩) e]; exact nm0
  obtain ⟨d0, d1⟩ := PQ.cells hli
  have hal : Below wq.heap.size wq (wq.alloc (.cells #[.bool r.start, .bool r.fin, .slice bo r.before.length bc, .slice so r.source.length sc, .slice ao r.after.length ac, .slice ta r.target.length tc, .int .i64 r.cursor] 65)).drew := ((Below.refl _ wq).alloc (Nat.le_refl _) _).drew
  have PA := PQ.below hal
  have hnew : (wq.alloc (.cells #[.bool r.start, .bool r.fin, .slice bo r.before.length bc, .slice so r.source.length sc, .slice ao r.after.length ac, .slice ta r.target.length tc, .int .i64 r.cursor] 65)).drew.heap[wq.heap.size]? = some (.cells #[.bool r.start, .bool r.fin, .slice bo r.before.length bc, .slice so r.source.length sc, .slice ao r.after.length ac, .slice ta r.target.length tc, .int .i64 r.cursor] 65) := heap_alloc_new wq _
  obtain ⟨rv', W1, hrun, ⟨g', c', hrv'⟩, e1, f1, gr1, tops', PF, hBF, hMF⟩ := PA.put hli r [.bool r.start, .bool r.fin, .slice bo r.before.length bc, .slice so r.source.length sc, .slice ao r.after.length ac, .slice ta r.target.length tc, .int .i64 r.cursor] ⟨rfl, fun u hu => by simp at hu; rcases hu with rfl | rfl | rfl | rfl | rfl | rfl | rfl <;> rfl⟩ (LQ.step hal.size (fun b hb _ => hal.block b hb) fun k hk => .inl hk) wq.heap.size (fun q u hq => K.at_box hnew (by simpa using hq)) (Nat.le_trans hFq hal.size) hrl
  obtain ⟨⟨y0, y1, y2, y3, y4, y5, y6⟩, _⟩ := V.cells7 hbox
  have HF : Hid (V.PS F tops' (W1.setCell ⟨X, init.length * 2 + 1, none⟩ rv') (.slice (some ⟨X, 0, none⟩) (init.length + 1) cap) (init ++ [⟨p.name, p.rules ++ [r]⟩]) (rvi ++ [rv']) ∧ Below F w (W1.setCell ⟨X, init.length * 2 + 1, none⟩ rv') ∧ V.Moves tops w tops' (W1.setCell ⟨X, init.length * 2 + 1, none⟩ rv')) := ⟨PF, (hBq.trans (hal.mono hFq)).trans hBF, (hMq.trans (V.Moves.of_below hal)).trans hMF⟩
  subst hrv'
  have lbq := (Array.getElem?_eq_some_iff.1 hbox).1
  have lbX := L.block_lt d1
  have hj0 : (0 : Int) ≤ init.length := by omega
  have hj1 : (init.length : Int) < init.length + 1 := by omega
  have hjw : IntKind.i64.wrap ((init.length : Int) + 1 - 1) = init.length := by rw [IntKind.wrap_i64]; omega
  clear PQ PA hal hnew LQ PF hBF hMF hMq hbox d0 gr1
  clear h hL nm0 hb0
  go_enter Try.func56, Try.ntmps56
  go_wp2
  rw [← hwq]
  clear hwq
  have HR : Hid (∀ ty, (Builtin.append_ #[22, 22] ty #[rv, .slice (some ⟨wq.heap.size, 0, none⟩) 1 1]).run Try.prog (wq.alloc (.cells #[.bool r.start, .bool r.fin, .slice bo r.before.length bc, .slice so r.source.length sc, .slice ao r.after.length ac, .slice ta r.target.length tc, .int .i64 r.cursor] 65)).drew = .ok (.slice (some ⟨g', 0, none⟩) (p.rules.length + 1) c') W1) := hrun
  clear hrun
  go_region_law (refine V.step_run (by rfl) (.tmp 32) (.tmp 34) (by rfl) _ _ _ W1 (by rfl) (by rfl) HR.out ?_)
  all_goals
    go_wp2
    go_ret
    exact ⟨rfl, ⟨tops', _, HF.out.1, HF.out.2.2⟩, HF.out.2.1⟩

set_option maxHeartbeats 8000000 in
/-- a new pass: the last one has a name -/
theorem putp_named (F : Nat) (w : World) (tops : List Nat) (ps : List V.Pass) (rvs : List Value) (ini : List V.Pass) (pl : V.Pass) (rvl : List Value) (rl : Value) (Y cq : Nat) (hps : ps = ini ++ [pl]) (hrvs : rvs = rvl ++ [rl]) (hlr : rvl.length = ini.length) (hnm : ¬ pl.name.size = 0) (h : V.PS F tops w (.slice (some ⟨Y, 0, none⟩) (ini.length + 1) cq) ps rvs) (r : K.Rule) (bo : Option Addr) (bc : Nat) (so : Option Addr) (sc : Nat) (ao : Option Addr) (ac : Nat) (ta : Option Addr) (tc : Nat) (hL : V.Leaf tops w fun W => K.RuIs W (.agg #[.bool r.start, .bool r.fin, .slice bo r.before.length bc, .slice so r.source.length sc, .slice ao r.after.length ac, .slice ta r.target.length tc, .int .i64 r.cursor]) r) (hF : F ≤ w.heap.size) (hil : ps.length ≤ 1000) :
    Calls Try.prog 56 #[.slice (some ⟨Y, 0, none⟩) (ini.length + 1) cq, .agg #[.bool r.start, .bool r.fin, .slice bo r.before.length bc, .slice so r.source.length sc, .slice ao r.after.length ac, .slice ta r.target.length tc, .int .i64 r.cursor]] w fun e w' => (∃ vp' tops' rvs', e = .returned vp' ∧ V.PS F tops' w' vp' (ps ++ [⟨⟨#[]⟩, [r]⟩]) rvs' ∧ V.Moves tops w tops' w') ∧ Below F w w' := by
  have hY : w.cell? ⟨Y, ini.length * 2, none⟩ = some (.string pl.name) := by
    have h' := h
    rw [hps, hrvs] at h'
    exact (h'.cells hlr).1
  have dn : ∀ o, (w.alloc o).cell? ⟨Y, ini.length * 2, none⟩ = some (.string pl.name) := fun o => by
    have e : (w.alloc o).heap[Y]? = w.heap[Y]? := Below.heap_alloc w o Y (L.block_lt hY)
    rw [World.cell?_of_block (a := ⟨Y, ini.length * 2, none⟩) e]; exact hY
  have hem : pl.name.toList.isEmpty = false := by
    rw [ByteArray.toList_eq]
    cases e : pl.name.data.toList with
    | nil => exact absurd (show pl.name.data.size = 0 by rw [← Array.length_toList, e]; rfl) hnm
    | cons _ _ => rfl
  have hil2 : ini.length ≤ 1000 := by rw [hps] at hil; simp at hil; omega
  have hk0 : (0 : Int) ≤ ini.length := by omega
  have hk1 : (ini.length : Int) < ini.length + 1 := by omega
  have hkw : IntKind.i64.wrap ((ini.length : Int) + 1 - 1) = ini.length := by rw [IntKind.wrap_i64]; omega
  have hne0 : ¬ (ini.length : Int) + 1 = 0 := by omega
  obtain ⟨w1, hw1⟩ : ∃ w1, w1 = w.alloc (.cells #[.bool r.start, .bool r.fin, .slice bo r.before.length bc, .slice so r.source.length sc, .slice ao r.after.length ac, .slice ta r.target.length tc, .int .i64 r.cursor] 65) := ⟨_, rfl⟩
  have hb1 : Below w.heap.size w w1 := by rw [hw1]; exact (Below.refl _ w).alloc (Nat.le_refl _) _
  have hbox1 : w1.heap[w.heap.size]? = some (.cells #[.bool r.start, .bool r.fin, .slice bo r.before.length bc, .slice so r.source.length sc, .slice ao r.after.length ac, .slice ta r.target.length tc, .int .i64 r.cursor] 65) := by rw [hw1]; exact heap_alloc_new w _
  have hs1 : w1.heap.size = w.heap.size + 1 := by rw [hw1]; simp
  obtain ⟨w2, hw2⟩ : ∃ w2, w2 = (w.alloc (.cells #[.bool r.start, .bool r.fin, .slice bo r.before.length bc, .slice so r.source.length sc, .slice ao r.after.length ac, .slice ta r.target.length tc, .int .i64 r.cursor] 65)).alloc (.cells #[.string ⟨#[]⟩, .slice none 0 0] 83) := ⟨_, rfl⟩
  have hw2' : w2 = w1.alloc (.cells #[.string ⟨#[]⟩, .slice none 0 0] 83) := by rw [hw2, hw1]
  have hb2 : Below w1.heap.size w1 w2 := by rw [hw2']; exact (Below.refl _ w1).alloc (Nat.le_refl _) _
  have hnp : w2.heap[w1.heap.size]? = some (.cells #[.string ⟨#[]⟩, .slice none 0 0] 83) := by rw [hw2']; exact heap_alloc_new w1 _
  have P2 := (h.below hb1).below hb2
  have hF2 : F ≤ w2.heap.size := Nat.le_trans hF (Nat.le_trans hb1.size hb2.size)
  obtain ⟨vp', wq, hrunP, ownP, grP, hvP⟩ := R.run_app V.elemP w2 0 F (.slice (some ⟨Y, 0, none⟩) (ini.length + 1) cq) ps.length (V.pcells ps rvs) P2.own ⟨w1.heap.size, 0, none⟩ 1 1 [.string ⟨#[]⟩, .slice none 0 0] rfl (fun q u hq => by rw [L.addr_add, Nat.zero_add]; exact K.at_box hnp (by simpa using hq)) (fun u hu => by simp at hu; rcases hu with rfl | rfl <;> rfl) (by omega) hF2
  obtain ⟨tq, PQ, hmq⟩ := P2.more ⟨#[]⟩ (Nat.zero_le _) ownP grP hvP
  have hkq : ∀ b, b < w2.heap.size → b ∉ tops → wq.heap[b]? = w2.heap[b]? := fun b hb hn => grP.block b hb fun e => hn (P2.top b (.inl e.symm))
  have hw2s : w2.heap.size = w.heap.size + 2 := by rw [hw2']; simp; omega
  have LQ : V.Leaf tq wq fun W => K.RuIs W (.agg #[.bool r.start, .bool r.fin, .slice bo r.before.length bc, .slice so r.source.length sc, .slice ao r.after.length ac, .slice ta r.target.length tc, .int .i64 r.cursor]) r := by
    have l2 := hL.step (tops' := tops) (w' := w2) (Nat.le_trans hb1.size hb2.size) (fun b hb _ => (hb2.block b (by omega)).trans (hb1.block b hb)) fun k hk => .inl hk
    exact l2.moves hmq
  have hntop : w.heap.size ∉ tops := fun hm => by have := h.lt _ hm; omega
  have hbox : wq.heap[w.heap.size]? = some (.cells #[.bool r.start, .bool r.fin, .slice bo r.before.length bc, .slice so r.source.length sc, .slice ao r.after.length ac, .slice ta r.target.length tc, .int .i64 r.cursor] 65) := (hkq _ (by omega) hntop).trans ((hb2.block _ (by omega)).trans hbox1)
  have hFq : F ≤ wq.heap.size := Nat.le_trans hF2 grP.size
  have hMq : V.Moves tops w tq wq := ((V.Moves.of_below hb1).trans (V.Moves.of_below hb2)).trans hmq
  have hBq : Below F w wq := ((hb1.mono hF).trans (hb2.mono (by omega))).grown grP hF2 fun k hk => (P2.own.lt k hk).1
  obtain ⟨X, cap, hvp'⟩ := PQ.slice (by simp)
  rw [List.length_append] at hvp'
  have hvp2 : vp' = .slice (some ⟨X, 0, none⟩) (ps.length + 1) cap := hvp'
  subst hvp2
  have HRP : Hid (∀ ty, (Builtin.append_ #[41, 41] ty #[.slice (some ⟨Y, 0, none⟩) (ini.length + 1) cq, .slice (some ⟨w.heap.size + 1, 0, none⟩) 1 1]).run Try.prog ((w.alloc (.cells #[.bool r.start, .bool r.fin, .slice bo r.before.length bc, .slice so r.source.length sc, .slice ao r.after.length ac, .slice ta r.target.length tc, .int .i64 r.cursor] 65)).alloc (.cells #[.string ⟨#[]⟩, .slice none 0 0] 83)) = .ok (.slice (some ⟨X, 0, none⟩) (ps.length + 1) cap) wq) := by
    rw [← hs1, ← hw2]; exact fun ty => hrunP
  obtain ⟨init, hinit⟩ : ∃ init, init = ps := ⟨_, rfl⟩
  obtain ⟨rvi, hrvi⟩ : ∃ rvi, rvi = rvs := ⟨_, rfl⟩
  obtain ⟨rv, hrv⟩ : ∃ rv : Value, rv = .slice none 0 0 := ⟨_, rfl⟩
  obtain ⟨p, hp⟩ : ∃ p : V.Pass, p = ⟨⟨#[]⟩, []⟩ := ⟨_, rfl⟩
  have hrl : p.rules.length ≤ 1000 := by rw [hp]; simp
  have HFin : Hid (init ++ [⟨p.name, p.rules ++ [r]⟩] = ps ++ [⟨⟨#[]⟩, [r]⟩]) := by show _ = _; rw [hinit, hp]; rfl
  have hli : rvi.length = init.length := by rw [hrvi, hinit]; exact h.len
  have hil' : init.length ≤ 1000 := by rw [hinit]; exact hil
  rw [← hrv, ← hp, ← hinit, ← hrvi] at PQ
  rw [← hinit] at HRP
  obtain ⟨d0, d1⟩ := PQ.cells hli
  have hal : Below wq.heap.size wq (wq.alloc (.cells #[.bool r.start, .bool r.fin, .slice bo r.before.length bc, .slice so r.source.length sc, .slice ao r.after.length ac, .slice ta r.target.length tc, .int .i64 r.cursor] 65)).drew := ((Below.refl _ wq).alloc (Nat.le_refl _) _).drew
  have PA := PQ.below hal
  have hnew : (wq.alloc (.cells #[.bool r.start, .bool r.fin, .slice bo r.before.length bc, .slice so r.source.length sc, .slice ao r.after.length ac, .slice ta r.target.length tc, .int .i64 r.cursor] 65)).drew.heap[wq.heap.size]? = some (.cells #[.bool r.start, .bool r.fin, .slice bo r.before.length bc, .slice so r.source.length sc, .slice ao r.after.length ac, .slice ta r.target.length tc, .int .i64 r.cursor] 65) := heap_alloc_new wq _
  obtain ⟨rv', W1, hrun, ⟨g', c', hrv'⟩, e1, f1, gr1, tops', PF, hBF, hMF⟩ := PA.put hli r [.bool r.start, .bool r.fin, .slice bo r.before.length bc, .slice so r.source.length sc, .slice ao r.after.length ac, .slice ta r.target.length tc, .int .i64 r.cursor] ⟨rfl, fun u hu => by simp at hu; rcases hu with rfl | rfl | rfl | rfl | rfl | rfl | rfl <;> rfl⟩ (LQ.step hal.size (fun b hb _ => hal.block b hb) fun k hk => .inl hk) wq.heap.size (fun q u hq => K.at_box hnew (by simpa using hq)) (Nat.le_trans hFq hal.size) hrl
  obtain ⟨⟨y0, y1, y2, y3, y4, y5, y6⟩, _⟩ := V.cells7 hbox
  have HF : Hid (V.PS F tops' (W1.setCell ⟨X, init.length * 2 + 1, none⟩ rv') (.slice (some ⟨X, 0, none⟩) (init.length + 1) cap) (init ++ [⟨p.name, p.rules ++ [r]⟩]) (rvi ++ [rv']) ∧ Below F w (W1.setCell ⟨X, init.length * 2 + 1, none⟩ rv') ∧ V.Moves tops w tops' (W1.setCell ⟨X, init.length * 2 + 1, none⟩ rv')) := ⟨PF, (hBq.trans (hal.mono hFq)).trans hBF, (hMq.trans (V.Moves.of_below hal)).trans hMF⟩
  subst hrv'
  have lbq := (Array.getElem?_eq_some_iff.1 hbox).1
  have lbX := L.block_lt d1
  have hj0 : (0 : Int) ≤ init.length := by omega
  have hj1 : (init.length : Int) < init.length + 1 := by omega
  have hjw : IntKind.i64.wrap ((init.length : Int) + 1 - 1) = init.length := by rw [IntKind.wrap_i64]; omega
  clear PQ PA hal hnew LQ PF hBF hMF hMq hbox d0 gr1
  clear hY hps hrvs hnm h hL hb1 hbox1 hb2 hnp P2 ownP grP hvP hkq hntop hmq hvp' hrunP hw2' hw2 hw1
  rw [← hinit] at hil
  clear hp hrv hinit hrvi
  have HR : Hid (∀ ty, (Builtin.append_ #[22, 22] ty #[rv, .slice (some ⟨wq.heap.size, 0, none⟩) 1 1]).run Try.prog (wq.alloc (.cells #[.bool r.start, .bool r.fin, .slice bo r.before.length bc, .slice so r.source.length sc, .slice ao r.after.length ac, .slice ta r.target.length tc, .int .i64 r.cursor] 65)).drew = .ok (.slice (some ⟨g', 0, none⟩) (p.rules.length + 1) c') W1) := hrun
  clear hrun hs1 hw2s
  go_enter Try.func56, Try.ntmps56
  go_wp2_with (at_builtin; first | refine Lib.wpList_append_run _ rfl _ _ _ _ rfl _ _ rfl rfl _ _ (HRP.out _) ?_)
  go_region_law (refine V.step_run (by rfl) (.tmp 32) (.tmp 34) (by rfl) _ _ _ W1 (by rfl) (by rfl) HR.out ?_)
  all_goals
    go_wp2
    go_ret
    exact ⟨⟨_, tops', _, rfl, HFin.out ▸ HF.out.1, HF.out.2.2⟩, HF.out.2.1⟩

set_option maxHeartbeats 8000000 in
/-- a new pass: there is none -/
theorem putp_first (F : Nat) (w : World) (tops : List Nat) (ps : List V.Pass) (rvs : List Value) (h : V.PS F tops w (.slice none 0 0) ps rvs) (r : K.Rule) (bo : Option Addr) (bc : Nat) (so : Option Addr) (sc : Nat) (ao : Option Addr) (ac : Nat) (ta : Option Addr) (tc : Nat) (hL : V.Leaf tops w fun W => K.RuIs W (.agg #[.bool r.start, .bool r.fin, .slice bo r.before.length bc, .slice so r.source.length sc, .slice ao r.after.length ac, .slice ta r.target.length tc, .int .i64 r.cursor]) r) (hF : F ≤ w.heap.size) (hil : ps.length ≤ 1000) :
    Calls Try.prog 56 #[.slice none 0 0, .agg #[.bool r.start, .bool r.fin, .slice bo r.before.length bc, .slice so r.source.length sc, .slice ao r.after.length ac, .slice ta r.target.length tc, .int .i64 r.cursor]] w fun e w' => (∃ vp' tops' rvs', e = .returned vp' ∧ V.PS F tops' w' vp' (ps ++ [⟨⟨#[]⟩, [r]⟩]) rvs' ∧ V.Moves tops w tops' w') ∧ Below F w w' := by
  obtain ⟨w1, hw1⟩ : ∃ w1, w1 = w.alloc (.cells #[.bool r.start, .bool r.fin, .slice bo r.before.length bc, .slice so r.source.length sc, .slice ao r.after.length ac, .slice ta r.target.length tc, .int .i64 r.cursor] 65) := ⟨_, rfl⟩
  have hb1 : Below w.heap.size w w1 := by rw [hw1]; exact (Below.refl _ w).alloc (Nat.le_refl _) _
  have hbox1 : w1.heap[w.heap.size]? = some (.cells #[.bool r.start, .bool r.fin, .slice bo r.before.length bc, .slice so r.source.length sc, .slice ao r.after.length ac, .slice ta r.target.length tc, .int .i64 r.cursor] 65) := by rw [hw1]; exact heap_alloc_new w _
  have hs1 : w1.heap.size = w.heap.size + 1 := by rw [hw1]; simp
  obtain ⟨w2, hw2⟩ : ∃ w2, w2 = (w.alloc (.cells #[.bool r.start, .bool r.fin, .slice bo r.before.length bc, .slice so r.source.length sc, .slice ao r.after.length ac, .slice ta r.target.length tc, .int .i64 r.cursor] 65)).alloc (.cells #[.string ⟨#[]⟩, .slice none 0 0] 83) := ⟨_, rfl⟩
  have hw2' : w2 = w1.alloc (.cells #[.string ⟨#[]⟩, .slice none 0 0] 83) := by rw [hw2, hw1]
  have hb2 : Below w1.heap.size w1 w2 := by rw [hw2']; exact (Below.refl _ w1).alloc (Nat.le_refl _) _
  have hnp : w2.heap[w1.heap.size]? = some (.cells #[.string ⟨#[]⟩, .slice none 0 0] 83) := by rw [hw2']; exact heap_alloc_new w1 _
  have P2 := (h.below hb1).below hb2
  have hF2 : F ≤ w2.heap.size := Nat.le_trans hF (Nat.le_trans hb1.size hb2.size)
  obtain ⟨vp', wq, hrunP, ownP, grP, hvP⟩ := R.run_app V.elemP w2 0 F (.slice none 0 0) ps.length (V.pcells ps rvs) P2.own ⟨w1.heap.size, 0, none⟩ 1 1 [.string ⟨#[]⟩, .slice none 0 0] rfl (fun q u hq => by rw [L.addr_add, Nat.zero_add]; exact K.at_box hnp (by simpa using hq)) (fun u hu => by simp at hu; rcases hu with rfl | rfl <;> rfl) (by omega) hF2
  obtain ⟨tq, PQ, hmq⟩ := P2.more ⟨#[]⟩ (Nat.zero_le _) ownP grP hvP
  have hkq : ∀ b, b < w2.heap.size → b ∉ tops → wq.heap[b]? = w2.heap[b]? := fun b hb hn => grP.block b hb fun e => hn (P2.top b (.inl e.symm))
  have hw2s : w2.heap.size = w.heap.size + 2 := by rw [hw2']; simp; omega
  have LQ : V.Leaf tq wq fun W => K.RuIs W (.agg #[.bool r.start, .bool r.fin, .slice bo r.before.length bc, .slice so r.source.length sc, .slice ao r.after.length ac, .slice ta r.target.length tc, .int .i64 r.cursor]) r := by
    have l2 := hL.step (tops' := tops) (w' := w2) (Nat.le_trans hb1.size hb2.size) (fun b hb _ => (hb2.block b (by omega)).trans (hb1.block b hb)) fun k hk => .inl hk
    exact l2.moves hmq
  have hntop : w.heap.size ∉ tops := fun hm => by have := h.lt _ hm; omega
  have hbox : wq.heap[w.heap.size]? = some (.cells #[.bool r.start, .bool r.fin, .slice bo r.before.length bc, .slice so r.source.length sc, .slice ao r.after.length ac, .slice ta r.target.length tc, .int .i64 r.cursor] 65) := (hkq _ (by omega) hntop).trans ((hb2.block _ (by omega)).trans hbox1)
  have hFq : F ≤ wq.heap.size := Nat.le_trans hF2 grP.size
  have hMq : V.Moves tops w tq wq := ((V.Moves.of_below hb1).trans (V.Moves.of_below hb2)).trans hmq
  have hBq : Below F w wq := ((hb1.mono hF).trans (hb2.mono (by omega))).grown grP hF2 fun k hk => (P2.own.lt k hk).1
  obtain ⟨X, cap, hvp'⟩ := PQ.slice (by simp)
  rw [List.length_append] at hvp'
  have hvp2 : vp' = .slice (some ⟨X, 0, none⟩) (ps.length + 1) cap := hvp'
  subst hvp2
  have HRP : Hid (∀ ty, (Builtin.append_ #[41, 41] ty #[.slice none 0 0, .slice (some ⟨w.heap.size + 1, 0, none⟩) 1 1]).run Try.prog ((w.alloc (.cells #[.bool r.start, .bool r.fin, .slice bo r.before.length bc, .slice so r.source.length sc, .slice ao r.after.length ac, .slice ta r.target.length tc, .int .i64 r.cursor] 65)).alloc (.cells #[.string ⟨#[]⟩, .slice none 0 0] 83)) = .ok (.slice (some ⟨X, 0, none⟩) (ps.length + 1) cap) wq) := by
    rw [← hs1, ← hw2]; exact fun ty => hrunP
  obtain ⟨init, hinit⟩ : ∃ init, init = ps := ⟨_, rfl⟩
  obtain ⟨rvi, hrvi⟩ : ∃ rvi, rvi = rvs := ⟨_, rfl⟩
  obtain ⟨rv, hrv⟩ : ∃ rv : Value, rv = .slice none 0 0 := ⟨_, rfl⟩
  obtain ⟨p, hp⟩ : ∃ p : V.Pass, p = ⟨⟨#[]⟩, []⟩ := ⟨_, rfl⟩
  have hrl : p.rules.length ≤ 1000 := by rw [hp]; simp
  have HFin : Hid (init ++ [⟨p.name, p.rules ++ [r]⟩] = ps ++ [⟨⟨#[]⟩, [r]⟩]) := by show _ = _; rw [hinit, hp]; rfl
  have hli : rvi.length = init.length := by rw [hrvi, hinit]; exact h.len
  have hil' : init.length ≤ 1000 := by rw [hinit]; exact hil
  rw [← hrv, ← hp, ← hinit, ← hrvi] at PQ
  rw [← hinit] at HRP
  obtain ⟨d0, d1⟩ := PQ.cells hli
  have hal : Below wq.heap.size wq (wq.alloc (.cells #[.bool r.start, .bool r.fin, .slice bo r.before.length bc, .slice so r.source.length sc, .slice ao r.after.length ac, .slice ta r.target.length tc, .int .i64 r.cursor] 65)).drew := ((Below.refl _ wq).alloc (Nat.le_refl _) _).drew
  have PA := PQ.below hal
  have hnew : (wq.alloc (.cells #[.bool r.start, .bool r.fin, .slice bo r.before.length bc, .slice so r.source.length sc, .slice ao r.after.length ac, .slice ta r.target.length tc, .int .i64 r.cursor] 65)).drew.heap[wq.heap.size]? = some (.cells #[.bool r.start, .bool r.fin, .slice bo r.before.length bc, .slice so r.source.length sc, .slice ao r.after.length ac, .slice ta r.target.length tc, .int .i64 r.cursor] 65) := heap_alloc_new wq _
  obtain ⟨rv', W1, hrun, ⟨g', c', hrv'⟩, e1, f1, gr1, tops', PF, hBF, hMF⟩ := PA.put hli r [.bool r.start, .bool r.fin, .slice bo r.before.length bc, .slice so r.source.length sc, .slice ao r.after.length ac, .slice ta r.target.length tc, .int .i64 r.cursor] ⟨rfl, fun u hu => by simp at hu; rcases hu with rfl | rfl | rfl | rfl | rfl | rfl | rfl <;> rfl⟩ (LQ.step hal.size (fun b hb _ => hal.block b hb) fun k hk => .inl hk) wq.heap.size (fun q u hq => K.at_box hnew (by simpa using hq)) (Nat.le_trans hFq hal.size) hrl
  obtain ⟨⟨y0, y1, y2, y3, y4, y5, y6⟩, _⟩ := V.cells7 hbox
  have HF : Hid (V.PS F tops' (W1.setCell ⟨X, init.length * 2 + 1, none⟩ rv') (.slice (some ⟨X, 0, none⟩) (init.length + 1) cap) (init ++ [⟨p.name, p.rules ++ [r]⟩]) (rvi ++ [rv']) ∧ Below F w (W1.setCell ⟨X, init.length * 2 + 1, none⟩ rv') ∧ V.Moves tops w tops' (W1.setCell ⟨X, init.length * 2 + 1, none⟩ rv')) := ⟨PF, (hBq.trans (hal.mono hFq)).trans hBF, (hMq.trans (V.Moves.of_below hal)).trans hMF⟩
  subst hrv'
  have lbq := (Array.getElem?_eq_some_iff.1 hbox).1
  have lbX := L.block_lt d1
  have hj0 : (0 : Int) ≤ init.length := by omega
  have hj1 : (init.length : Int) < init.length + 1 := by omega
  have hjw : IntKind.i64.wrap ((init.length : Int) + 1 - 1) = init.length := by rw [IntKind.wrap_i64]; omega
  clear PQ PA hal hnew LQ PF hBF hMF hMq hbox d0 gr1
  clear h hL hb1 hbox1 hb2 hnp P2 ownP grP hvP hkq hntop hmq hvp' hrunP hw2' hw2 hw1
  rw [← hinit] at hil
  clear hp hrv hinit hrvi
  have HR : Hid (∀ ty, (Builtin.append_ #[22, 22] ty #[rv, .slice (some ⟨wq.heap.size, 0, none⟩) 1 1]).run Try.prog (wq.alloc (.cells #[.bool r.start, .bool r.fin, .slice bo r.before.length bc, .slice so r.source.length sc, .slice ao r.after.length ac, .slice ta r.target.length tc, .int .i64 r.cursor] 65)).drew = .ok (.slice (some ⟨g', 0, none⟩) (p.rules.length + 1) c') W1) := hrun
  clear hrun hs1 hw2s
  go_enter Try.func56, Try.ntmps56
  go_wp2_with (at_builtin; first | refine Lib.wpList_append_run _ rfl _ _ _ _ rfl _ _ rfl rfl _ _ (HRP.out _) ?_)
  go_region_law (refine V.step_run (by rfl) (.tmp 32) (.tmp 34) (by rfl) _ _ _ W1 (by rfl) (by rfl) HR.out ?_)
  all_goals
    go_wp2
    go_ret
    exact ⟨⟨_, tops', _, rfl, HFin.out ▸ HF.out.1, HF.out.2.2⟩, HF.out.2.1⟩

end Go.Proofs.Ytchkcjaahjhbcaa

/-
  resolve.put, whatever passes there are.
-/
namespace Go.Proofs.Ytchkcjaahjhbcaa
open Go.RowKit
set_option linter.unusedVariables false

theorem V.putP_snoc (init : List V.Pass) (p : V.Pass) (r : K.Rule) : V.putP (init ++ [p]) r = if p.name.size = 0 then init ++ [⟨p.name, p.rules ++ [r]⟩] else init ++ [p] ++ [⟨⟨#[]⟩, [r]⟩] := by
  unfold V.putP
  rw [List.getLast?_concat]
  simp only [List.dropLast_concat]

/-- a rule is put -/
theorem put_any (F : Nat) (w : World) (tops : List Nat) (vp : Value) (ps : List V.Pass) (rvs : List Value) (h : V.PS F tops w vp ps rvs) (h0 : ps = [] → vp = .slice none 0 0) (r : K.Rule) (bo : Option Addr) (bc : Nat) (so : Option Addr) (sc : Nat) (ao : Option Addr) (ac : Nat) (ta : Option Addr) (tc : Nat) (hL : V.Leaf tops w fun W => K.RuIs W (.agg #[.bool r.start, .bool r.fin, .slice bo r.before.length bc, .slice so r.source.length sc, .slice ao r.after.length ac, .slice ta r.target.length tc, .int .i64 r.cursor]) r) (hF : F ≤ w.heap.size) (hil : ps.length ≤ 1000) (hrl : ∀ p ∈ ps, p.rules.length ≤ 1000) :
    Calls Try.prog 56 #[vp, .agg #[.bool r.start, .bool r.fin, .slice bo r.before.length bc, .slice so r.source.length sc, .slice ao r.after.length ac, .slice ta r.target.length tc, .int .i64 r.cursor]] w fun e w' => (∃ vp' tops' rvs', e = .returned vp' ∧ V.PS F tops' w' vp' (V.putP ps r) rvs' ∧ V.Moves tops w tops' w') ∧ Below F w w' := by
  by_cases hps : ps = []
  · have hvp := h0 hps
    subst hvp
    refine (putp_first F w tops ps rvs h r bo bc so sc ao ac ta tc hL hF hil).mono fun e w' ⟨⟨vp', tops', rvs', he, hp, hm⟩, hb⟩ => ⟨⟨vp', tops', rvs', he, ?_, hm⟩, hb⟩
    rw [hps] at hp ⊢
    exact hp
  · have hpos : 0 < ps.length := by cases ps with | nil => exact absurd rfl hps | cons _ _ => simp
    obtain ⟨init, p, rvi, rv, hp, hrv, hli⟩ := h.snoc hpos
    obtain ⟨X, cap, hvp⟩ := h.slice hpos
    have hlen : ps.length = init.length + 1 := by rw [hp]; simp
    rw [hlen] at hvp
    subst hvp
    by_cases hnm : p.name.size = 0
    · have hnm' : p.name = ⟨#[]⟩ := by
        have : p.name.data = #[] := Array.size_eq_zero_iff.1 hnm
        cases hq : p.name with
        | mk d => rw [hq] at this; exact congrArg ByteArray.mk this
      have h' := h
      rw [hp, hrv] at h'
      refine (putp_open F w tops init p rvi rv X cap h' hli hnm' r bo bc so sc ao ac ta tc hL hF (hrl p (by rw [hp]; simp)) (by omega)).mono fun e w' ⟨he, ⟨tops', rv', hps', hm⟩, hb⟩ => ⟨⟨_, tops', rvi ++ [rv'], he, ?_, hm⟩, hb⟩
      rw [hp, V.putP_snoc, if_pos hnm]
      exact hps'
    · refine (putp_named F w tops ps rvs init p rvi rv X cap hp hrv hli hnm h r bo bc so sc ao ac ta tc hL hF hil).mono fun e w' ⟨⟨vp', tops', rvs', he, hq, hm⟩, hb⟩ => ⟨⟨vp', tops', rvs', he, ?_, hm⟩, hb⟩
      rw [hp, V.putP_snoc, if_neg hnm]
      rw [hp] at hq
      exact hq

end Go.Proofs.Ytchkcjaahjhbcaa
