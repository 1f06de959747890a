/-
  What is left of parts by their kinds, as the document's text reckons it.
-/
import Derived.Test.YtchkcjaahjhbcabGreatDoorRBareQ
namespace Go.Proofs.YtchkcjaahjhbcabGreatDoor
open Go.RowKit
set_option maxRecDepth 20000
set_option linter.unusedSimpArgs false
set_option linter.unusedVariables false


/-- the cells of a part, read where all that was there at w0 is still there -/
def R.PtElB (w0 : World) (x : R.Part) (c : List Value) (w : World) : Prop := R.Old w0 w → R.PtEl x c w
def R.RowPB (w0 : World) (F : Nat) (w : World) (v : Value) (xs : List R.Part) : Prop := R.Row 47 16 (R.PtElB w0) F w v xs
theorem R.RowPB.pts {w0 : World} {F : Nat} {w : World} {v : Value} {xs : List R.Part} (h : R.RowPB w0 F w v xs) (ho : R.Old w0 w) : R.Pts w v xs := by
  obtain ⟨ao, cap, hv⟩ := R.Row.slice h
  refine ⟨ao, cap, hv, fun hz => ?_⟩
  cases xs with
  | nil => exact absurd rfl hz
  | cons x0 xs =>
    obtain ⟨g, c, hob, ⟨cap', hv'⟩, _, _⟩ := R.Row.at h (j := 0) (x := x0) rfl
    refine ⟨g, 0, by rw [hv] at hv'; cases hv'; rfl, fun j x hj => ?_⟩
    obtain ⟨g2, c2, hob2, _, _, hst⟩ := R.Row.at h hj
    have hg : g2 = g := by rw [hob] at hob2; exact (Option.some.inj hob2).symm
    subst hg
    obtain ⟨hcells, hpt⟩ := hst.here
    have hpt' : R.PtIs w (.agg c2.toArray) x := hpt ho
    obtain ⟨so, sc, lbo, lbc, lso, lsc, lao, lac, rbo, rbc, rso, rsc, rao, rac, he, _⟩ := hpt'.open
    have hc2 : c2 = [.int .i64 x.kind, .string x.name, .slice so x.set.length sc, .int .i64 x.dir, .bool x.left.start, .bool x.left.fin, .slice lbo x.left.before.length lbc, .slice lso x.left.source.length lsc, .slice lao x.left.after.length lac, .int .i64 x.left.cursor, .bool x.right.start, .bool x.right.fin, .slice rbo x.right.before.length rbc, .slice rso x.right.source.length rsc, .slice rao x.right.after.length rac, .int .i64 x.right.cursor] := by
      have := congrArg (fun v => match v with | .agg a => a.toList | _ => []) he
      simpa using this
    subst hc2
    exact ⟨so, sc, lbo, lbc, lso, lsc, lao, lac, rbo, rbc, rso, rsc, rao, rac, hcells 0 _ rfl, hcells 1 _ rfl, hcells 2 _ rfl, hcells 3 _ rfl, hcells 4 _ rfl, hcells 5 _ rfl, hcells 6 _ rfl, hcells 7 _ rfl, hcells 8 _ rfl, hcells 9 _ rfl, hcells 10 _ rfl, hcells 11 _ rfl, hcells 12 _ rfl, hcells 13 _ rfl, hcells 14 _ rfl, hcells 15 _ rfl, hpt'⟩
theorem R.SdB.is {w0 w : World} {F : Nat} {v : Value} {s : R.Side} (h : R.SdB w0 F w v s) : R.Stays F none w fun w' => R.Old w0 w' → R.SdIs w' v s := fun w' hk ho => by
  obtain ⟨bo, bc, so, sc, ao, ac, hv, h1, h2, h3, h4⟩ := h
  exact ⟨bo, bc, so, sc, ao, ac, hv, R.RowB.its h1 w' hk ho, R.RowB.its h2 w' hk ho, R.RowB.its h3 w' hk ho, h4⟩

set_option maxHeartbeats 16000000 in
theorem Bare_any (w : World) (v : Value) (l : List R.Part) (R0 : R.Pts w v l) (hl : l.length ≤ 200) (hp : ∀ p ∈ l, R.partE p = 0) :
    Calls Tryz.prog 8 #[v] w fun e w' => ∃ v', e = .returned v' ∧ R.Pts w' v' (l.map R.bareP) ∧ Below w.heap.size w w' := by
  have HR0 : Hid (R.Pts w v l) := R0
  have HP : Hid (∀ p ∈ l, R.partE p = 0) := hp
  obtain ⟨ao, ca, rfl⟩ := R0.len
  clear R0 hp
  go_enter Tryz.func8, Tryz.ntmps8
  go_wp2
  go_loopw [3, 9] (fun v i wr => ∃ (k : Nat) (vo : Option Addr) (vc : Nat), k ≤ l.length ∧ i = .int .i64 k ∧ v = .slice vo k vc ∧ Hid (R.RowPB w w.heap.size wr (.slice vo k vc) ((l.take k).map R.bareP)) ∧ Hid (Below w.heap.size w wr)) (fun _ i _ => l.length - (intOf i).toNat)
  case atStart => exact ⟨0, none, 0, Nat.zero_le _, rfl, rfl, R.Row.nil _ _, Below.refl _ w⟩
  case round =>
    obtain ⟨k, vo, vc, hk, rfl, rfl, HR, HB⟩ := hrel
    by_cases hlt : k < l.length
    · obtain ⟨p, hpk⟩ : ∃ p, l[k]? = some p := ⟨l[k], by simp [hlt]⟩
      have hE := HP.out p (List.mem_of_getElem? hpk)
      obtain ⟨_, _, e0, hcs⟩ := HR0.out
      cases e0
      obtain ⟨b, off, rfl, hcell⟩ := hcs (by intro h; subst h; simp at hlt)
      obtain ⟨so, sc, lbo, lbc, lso, lsc, lao, lac, rbo, rbc, rso, rsc, rao, rac, c0, c1, c2, c3, c4, c5, c6, c7, c8, c9, c10, c11, c12, c13, c14, c15, hP⟩ := hcell k p hpk
      have kk := R.Keeps.of_below HB.out (Nat.le_refl _)
      obtain ⟨cp, HCp⟩ : ∃ cp : Array Value, Hid (cp = #[.int .i64 p.kind, .string p.name, .slice so p.set.length sc, .int .i64 p.dir, .bool p.left.start, .bool p.left.fin, .slice lbo p.left.before.length lbc, .slice lso p.left.source.length lsc, .slice lao p.left.after.length lac, .int .i64 p.left.cursor, .bool p.right.start, .bool p.right.fin, .slice rbo p.right.before.length rbc, .slice rso p.right.source.length rsc, .slice rao p.right.after.length rac, .int .i64 p.right.cursor]) := ⟨_, rfl⟩
      have hld : (loadVar 47 ⟨b, off + k * 16, none⟩).run Tryz.prog wr = .ok (.agg cp) wr := by
        refine R.run_load_at wr b (off + k * 16) 47 cp _ (fun j v hj => ?_) Tryz.underlying47 rfl (by rw [HCp.out]; kernel_rfl)
        rw [HCp.out] at hj
        match j, hj with
        | 0, hj => cases hj; exact kk _ _ _ c0
        | 1, hj => cases hj; exact kk _ _ _ c1
        | 2, hj => cases hj; exact kk _ _ _ c2
        | 3, hj => cases hj; exact kk _ _ _ c3
        | 4, hj => cases hj; exact kk _ _ _ c4
        | 5, hj => cases hj; exact kk _ _ _ c5
        | 6, hj => cases hj; exact kk _ _ _ c6
        | 7, hj => cases hj; exact kk _ _ _ c7
        | 8, hj => cases hj; exact kk _ _ _ c8
        | 9, hj => cases hj; exact kk _ _ _ c9
        | 10, hj => cases hj; exact kk _ _ _ c10
        | 11, hj => cases hj; exact kk _ _ _ c11
        | 12, hj => cases hj; exact kk _ _ _ c12
        | 13, hj => cases hj; exact kk _ _ _ c13
        | 14, hj => cases hj; exact kk _ _ _ c14
        | 15, hj => cases hj; exact kk _ _ _ c15
        | j + 16, hj => simp at hj
      have hsb := HB.out.size
      obtain ⟨_, _, _, _, _, _, _, _, _, _, _, _, _, _, hv, HS, HF, HL, HRt, hn, hd0⟩ := hP.open
      have he := Value.agg.inj hv
      simp only [Array.mk.injEq, List.cons.injEq, Value.slice.injEq, and_true, true_and] at he
      obtain ⟨⟨rfl, rfl⟩, ⟨rfl, rfl⟩, ⟨rfl, rfl⟩, ⟨rfl, rfl⟩, ⟨rfl, rfl⟩, ⟨rfl, rfl⟩, ⟨rfl, rfl⟩⟩ := he
      have HS0 : Hid (S.Rd w (.slice so p.set.length sc) p.set ∧ S.Fit p.set ∧ p.name.size ≤ 140737488355328 ∧ R.I64 p.dir) := ⟨HS, HF, hn, hd0⟩
      have HSd : Hid (R.SdIs w (.agg #[.bool p.left.start, .bool p.left.fin, .slice lbo p.left.before.length lbc, .slice lso p.left.source.length lsc, .slice lao p.left.after.length lac, .int .i64 p.left.cursor]) p.left ∧ R.SdIs w (.agg #[.bool p.right.start, .bool p.right.fin, .slice rbo p.right.before.length rbc, .slice rso p.right.source.length rsc, .slice rao p.right.after.length rac, .int .i64 p.right.cursor]) p.right) := ⟨HL, HRt⟩
      have HLt : Hid (∀ g, (Value.slice vo k vc).ownBlock = some g → w.heap.size ≤ g ∧ g < wr.heap.size) := R.Row.lt HR.out
      have HNx : Hid ((l.take k).map R.bareP ++ [R.bareP p] = (l.take (k + 1)).map R.bareP) := by
        show _ = _
        rw [List.take_add_one, hpk]; simp
      have HLn : Hid (((l.take (k + 1)).map R.bareP).length = k + 1) := by
        show _ = _
        simp; omega
      clear hcell hcs hpk hv HS kk HF HL HRt hn hd0 hP c0 c1 c2 c3 c4 c5 c6 c7 c8 c9 c10 c11 c12 c13 c14 c15
      obtain ⟨W1, hW1⟩ : ∃ W1, Hid (W1 = (wr.alloc (.cells #[.int .i64 0, .string ⟨#[]⟩, .slice none 0 0, .int .i64 0, .bool false, .bool false, .slice none 0 0, .slice none 0 0, .slice none 0 0, .int .i64 0, .bool false, .bool false, .slice none 0 0, .slice none 0 0, .slice none 0 0, .int .i64 0] 47)).setRow wr.heap.size cp) := ⟨_, rfl⟩
      have hZ1 : (wr.alloc (.cells #[.int .i64 0, .string ⟨#[]⟩, .slice none 0 0, .int .i64 0, .bool false, .bool false, .slice none 0 0, .slice none 0 0, .slice none 0 0, .int .i64 0, .bool false, .bool false, .slice none 0 0, .slice none 0 0, .slice none 0 0, .int .i64 0] 47)).heap[wr.heap.size]? = some (.cells #[.int .i64 0, .string ⟨#[]⟩, .slice none 0 0, .int .i64 0, .bool false, .bool false, .slice none 0 0, .slice none 0 0, .slice none 0 0, .int .i64 0, .bool false, .bool false, .slice none 0 0, .slice none 0 0, .slice none 0 0, .int .i64 0] 47) := heap_alloc_new wr _
      have hr1 := R.row_lay hZ1 cp
      rw [← hW1.out] at hr1
      have s1 : W1.heap.size ≤ wr.heap.size + 1 ∧ wr.heap.size + 1 ≤ W1.heap.size := by rw [hW1.out]; simp
      have HW1 : Hid (W1.heap[wr.heap.size]? = some (.cells cp 47) ∧ Below wr.heap.size wr W1) := ⟨hr1.1, ((Below.refl _ wr).alloc (Nat.le_refl _) _).grown hr1.2 (by simp) (fun g hg => by have h2 : wr.heap.size = g := Option.some.inj hg; omega)⟩
      have hcpn : cp.size = 16 := by rw [HCp.out]; rfl
      have hcp1 : cp.all (·.oneCell') = true := by rw [HCp.out]; simp [Value.oneCell']
      have hinf : (Tryz.prog.info? 47).map (·.size) = some cp.size := by rw [hcpn]; kernel_rfl
      have HS1 : Hid (∀ (h : (wr.alloc (.cells #[.int .i64 0, .string ⟨#[]⟩, .slice none 0 0, .int .i64 0, .bool false, .bool false, .slice none 0 0, .slice none 0 0, .slice none 0 0, .int .i64 0, .bool false, .bool false, .slice none 0 0, .slice none 0 0, .slice none 0 0, .int .i64 0] 47)).heap[wr.heap.size]? = some (.cells #[.int .i64 0, .string ⟨#[]⟩, .slice none 0 0, .int .i64 0, .bool false, .bool false, .slice none 0 0, .slice none 0 0, .slice none 0 0, .int .i64 0, .bool false, .bool false, .slice none 0 0, .slice none 0 0, .slice none 0 0, .int .i64 0] 47)), (#[.int .i64 0, .string ⟨#[]⟩, .slice none 0 0, .int .i64 0, .bool false, .bool false, .slice none 0 0, .slice none 0 0, .slice none 0 0, .int .i64 0, .bool false, .bool false, .slice none 0 0, .slice none 0 0, .slice none 0 0, .int .i64 0] : Array Value).size = cp.size) := fun _ => by rw [hcpn]; rfl
      clear hr1
      rcases R.partE_cases hE with ⟨hk1, _, _⟩ | ⟨hk3, _⟩ | ⟨hk4, _⟩ | ⟨hk2, hr⟩
      · as_aux_lemma =>
        obtain ⟨cb, HCb⟩ : ∃ cb : Array Value, Hid (cb = #[.int .i64 1, .string ⟨#[]⟩, .slice none 0 0, .int .i64 0, .bool false, .bool false, .slice none 0 0, .slice none 0 0, .slice none 0 0, .int .i64 0, .bool false, .bool false, .slice none 0 0, .slice none 0 0, .slice none 0 0, .int .i64 0]) := ⟨_, rfl⟩
        obtain ⟨W2, hW2⟩ : ∃ W2, Hid (W2 = (W1.alloc (.cells #[.int .i64 0, .string ⟨#[]⟩, .slice none 0 0, .int .i64 0, .bool false, .bool false, .slice none 0 0, .slice none 0 0, .slice none 0 0, .int .i64 0, .bool false, .bool false, .slice none 0 0, .slice none 0 0, .slice none 0 0, .int .i64 0] 47)).setRow W1.heap.size #[.int .i64 1, .string ⟨#[]⟩, .slice none 0 0, .int .i64 0, .bool false, .bool false, .slice none 0 0, .slice none 0 0, .slice none 0 0, .int .i64 0, .bool false, .bool false, .slice none 0 0, .slice none 0 0, .slice none 0 0, .int .i64 0]) := ⟨_, rfl⟩
        have hZ2 : (W1.alloc (.cells #[.int .i64 0, .string ⟨#[]⟩, .slice none 0 0, .int .i64 0, .bool false, .bool false, .slice none 0 0, .slice none 0 0, .slice none 0 0, .int .i64 0, .bool false, .bool false, .slice none 0 0, .slice none 0 0, .slice none 0 0, .int .i64 0] 47)).heap[W1.heap.size]? = some (.cells #[.int .i64 0, .string ⟨#[]⟩, .slice none 0 0, .int .i64 0, .bool false, .bool false, .slice none 0 0, .slice none 0 0, .slice none 0 0, .int .i64 0, .bool false, .bool false, .slice none 0 0, .slice none 0 0, .slice none 0 0, .int .i64 0] 47) := heap_alloc_new W1 _
        have hr2 := R.row_lay hZ2 #[.int .i64 1, .string ⟨#[]⟩, .slice none 0 0, .int .i64 0, .bool false, .bool false, .slice none 0 0, .slice none 0 0, .slice none 0 0, .int .i64 0, .bool false, .bool false, .slice none 0 0, .slice none 0 0, .slice none 0 0, .int .i64 0]
        rw [← hW2.out] at hr2
        have s2 : W2.heap.size ≤ wr.heap.size + 2 ∧ wr.heap.size + 2 ≤ W2.heap.size := by rw [hW2.out]; simp; omega
        have HB2 : Hid (Below wr.heap.size wr W2) := (HW1.out.2.alloc (by omega) _).grown hr2.2 (by simp; omega) (fun g hg => by have h2 : W1.heap.size = g := Option.some.inj hg; omega)
        have h2a : W2.heap[wr.heap.size]? = some (.cells cp 47) := (hr2.2.block wr.heap.size (by simp; omega) (by intro h; have h2 : wr.heap.size = W1.heap.size := Option.some.inj h; omega)).trans ((Below.heap_alloc W1 _ wr.heap.size (by omega)).trans HW1.out.1)
        have HH2 : Hid (W2.heap[W1.heap.size]? = some (.cells #[.int .i64 1, .string ⟨#[]⟩, .slice none 0 0, .int .i64 0, .bool false, .bool false, .slice none 0 0, .slice none 0 0, .slice none 0 0, .int .i64 0, .bool false, .bool false, .slice none 0 0, .slice none 0 0, .slice none 0 0, .int .i64 0] 47)) := hr2.1
        have e0 : W1.cell? ⟨wr.heap.size, 0, none⟩ = some (.int .i64 1) := by have h := HW1.out.1; rw [HCp.out, hk1] at h; exact R.at_box' (i := 0) h rfl
        have h2b := h2a
        rw [HCp.out, hk1] at h2b
        have d0 := R.at_box' (i := 0) h2b rfl
        have hn1 : ¬ wr.heap.size = W1.heap.size := by omega
        have hn2 : ¬ W1.heap.size = wr.heap.size := by omega
        have hbp : R.bareP p = ⟨1, p.name, p.set, 0, R.noSide, R.noSide⟩ := by unfold R.bareP; simp [hk1]
        have d1 := R.at_box' (i := 1) h2b rfl
        have g1 := R.at_box' (i := 1) HH2.out rfl
        have f1 := R.free_box (i := 1) HH2.out
        have d2 := R.at_box' (i := 2) h2b rfl
        have g2 := R.at_box' (i := 2) HH2.out rfl
        have f2 := R.free_box (i := 2) HH2.out
        obtain ⟨W3, hW3⟩ : ∃ W3, Hid (W3 = ((W2.setCell ⟨W1.heap.size, 1, none⟩ (.string p.name)).setCell ⟨W1.heap.size, 2, none⟩ (.slice so p.set.length sc))) := ⟨_, rfl⟩
        have HH3 : Hid (W3.heap[W1.heap.size]? = some (.cells #[.int .i64 1, .string p.name, .slice so p.set.length sc, .int .i64 0, .bool false, .bool false, .slice none 0 0, .slice none 0 0, .slice none 0 0, .int .i64 0, .bool false, .bool false, .slice none 0 0, .slice none 0 0, .slice none 0 0, .int .i64 0] 47)) := by
          rw [hW3.out]
          have x1 : (W2.setCell ⟨W1.heap.size, 1, none⟩ (.string p.name)).heap[W1.heap.size]? = some (.cells #[.int .i64 1, .string p.name, .slice none 0 0, .int .i64 0, .bool false, .bool false, .slice none 0 0, .slice none 0 0, .slice none 0 0, .int .i64 0, .bool false, .bool false, .slice none 0 0, .slice none 0 0, .slice none 0 0, .int .i64 0] 47) := heap_setCell_same _ _ 1 _ _ _ HH2.out
          have x2 : ((W2.setCell ⟨W1.heap.size, 1, none⟩ (.string p.name)).setCell ⟨W1.heap.size, 2, none⟩ (.slice so p.set.length sc)).heap[W1.heap.size]? = some (.cells #[.int .i64 1, .string p.name, .slice so p.set.length sc, .int .i64 0, .bool false, .bool false, .slice none 0 0, .slice none 0 0, .slice none 0 0, .int .i64 0, .bool false, .bool false, .slice none 0 0, .slice none 0 0, .slice none 0 0, .int .i64 0] 47) := heap_setCell_same _ _ 2 _ _ _ x1
          exact x2
        have hg3 : W2.grownBy W3 (some W1.heap.size) := by rw [hW3.out]; exact (S.grown_trans (R.grown_set _ _ _ _) (R.grown_set _ _ _ _))
        have s3 : W3.heap.size ≤ wr.heap.size + 2 ∧ wr.heap.size + 2 ≤ W3.heap.size := by rw [hW3.out]; simp; omega
        have HK3 : Hid (∀ b, b < wr.heap.size → W3.heap[b]? = wr.heap[b]?) := fun b hb => (hg3.block b (by omega) (by intro h; have h2 : b = W1.heap.size := Option.some.inj h; omega)).trans (HB2.out.block b hb)
        have HB3 : Hid (Below w.heap.size w W3) := (HB.out.trans (HB2.out.mono hsb)).grown hg3 (by omega) (fun g hg => by have h2 : W1.heap.size = g := Option.some.inj hg; omega)
        obtain ⟨cq, HCq⟩ : ∃ cq : Array Value, Hid (cq = #[.int .i64 1, .string p.name, .slice so p.set.length sc, .int .i64 0, .bool false, .bool false, .slice none 0 0, .slice none 0 0, .slice none 0 0, .int .i64 0, .bool false, .bool false, .slice none 0 0, .slice none 0 0, .slice none 0 0, .int .i64 0]) := ⟨_, rfl⟩
        have hlq : (loadVar 47 ⟨W1.heap.size, 0, none⟩).run Tryz.prog W3 = .ok (.agg cq) W3 := by rw [HCq.out]; exact run_loadVar_row (P := Tryz.prog) W3 W1.heap.size 47 47 _ (0, 0) _ HH3.out Tryz.underlying47 rfl (by kernel_rfl)
        have hbq : (Instr.buildSlice 22 1 #[(0, .agg cq)]).run Tryz.prog W3 = .ok (.slice (some ⟨W3.heap.size, 0, none⟩) 1 1) (W3.alloc (.cells cq 47)) := by rw [HCq.out]; exact R.bs_run W3 _ _ _ _ _ _ _ _ _ _ _ _ _ _ _ _
        have HR4 : Hid (R.RowPB w w.heap.size (W3.alloc (.cells cq 47)) (.slice vo k vc) ((l.take k).map R.bareP)) := R.Row.below (R.Row.keep HR.out (by omega) (fun b _ hb => HK3.out b hb)) ((Below.refl _ W3).alloc (Nat.le_refl _) _)
        have HO4 : Hid (R.RowPB w (wr.heap.size + 2) (W3.alloc (.cells cq 47)) (.slice (some ⟨W3.heap.size, 0, none⟩) 1 1) [R.bareP p]) := by
          have h := R.Row.one (e := 47) (k := 16) (El := R.PtElB w) (F := wr.heap.size + 2) (w := W3) cq.toList (by rw [HCq.out]; rfl) (by rw [HCq.out]; intro u hu; simp only [List.mem_cons, List.not_mem_nil, or_false] at hu; rcases hu with rfl | rfl | rfl | rfl | rfl | rfl | rfl | rfl | rfl | rfl | rfl | rfl | rfl | rfl | rfl | rfl <;> rfl) (x := R.bareP p) ?_ (by omega)
          · exact h
          · rw [HCq.out, hbp]
            intro w' hkk ho
            exact ⟨so, sc, _, _, _, _, _, _, _, _, _, _, _, _, rfl, R.Old.rd HS0.out.1 ho, HS0.out.2.1, R.noSide_is w', R.noSide_is w', HS0.out.2.2.1, by simp [R.I64]⟩
        have HB4 : Hid (Below w.heap.size w (W3.alloc (.cells cq 47))) := HB3.out.alloc HB3.out.size _
        clear h2a h2b hbp hr2 hg3
        go_wp2_with first
          | (refine R.list_load rfl 47 (.tmp 11) rfl ⟨b, off + k * 16, none⟩ (.agg cp) rfl hld ?_)
          | (refine wpList_store_row rfl 47 (.tmp 5) (.tmp 12) rfl wr.heap.size cp rfl rfl 47 _ hZ1 hinf (HS1.out hZ1) hcp1 ?_; rw [← hW1.out])
          | (refine wpList_store_row rfl 47 (.tmp 6) (.tmp 15) rfl W1.heap.size #[.int .i64 1, .string ⟨#[]⟩, .slice none 0 0, .int .i64 0, .bool false, .bool false, .slice none 0 0, .slice none 0 0, .slice none 0 0, .int .i64 0, .bool false, .bool false, .slice none 0 0, .slice none 0 0, .slice none 0 0, .int .i64 0] rfl rfl 47 _ hZ2 (by kernel_rfl) rfl (by simp [Value.oneCell']) ?_; rw [← hW2.out])
          | (rw [← hW3.out]; refine R.list_load rfl 47 (.tmp 6) rfl ⟨W1.heap.size, 0, none⟩ (.agg cq) rfl hlq ?_)
          | (refine R.list_bs rfl 22 1 (.tmp 53) rfl (.agg cq) rfl _ hbq ?_)
          | (at_builtin; refine R.list_add R.elemP rfl _ _ rfl _ _ ((l.take k).map R.bareP) [R.bareP p] rfl rfl HR4.out HO4.out (by omega) (fun g hg => by have := HLt.out g hg; omega) (by simp; omega) (by simp; omega) ?_; intro v5 w5 R5 g5 n5)
          | fail
        have HB5 : Hid (Below w.heap.size w w5) := Below.grown HB4.out g5 (by simp; omega) (fun j hj => (HLt.out j hj).1)
        rw [HNx.out] at R5
        obtain ⟨vo5, vc5, hv5⟩ := R.Row.slice R5
        rw [HLn.out] at hv5
        subst hv5
        have HR5 : Hid (R.RowPB w w.heap.size w5 (.slice vo5 (k + 1) vc5) ((l.take (k + 1)).map R.bareP)) := R5
        clear R5 g5 n5 hlq hbq
        go_wp2
        go_roundw
        case rel => exact ⟨k + 1, vo5, vc5, by omega, by simp, rfl, HR5, HB5⟩
        case measure => simp [intOf]; omega
      · as_aux_lemma =>
        obtain ⟨cb, HCb⟩ : ∃ cb : Array Value, Hid (cb = #[.int .i64 3, .string ⟨#[]⟩, .slice none 0 0, .int .i64 0, .bool false, .bool false, .slice none 0 0, .slice none 0 0, .slice none 0 0, .int .i64 0, .bool false, .bool false, .slice none 0 0, .slice none 0 0, .slice none 0 0, .int .i64 0]) := ⟨_, rfl⟩
        obtain ⟨W2, hW2⟩ : ∃ W2, Hid (W2 = (W1.alloc (.cells #[.int .i64 0, .string ⟨#[]⟩, .slice none 0 0, .int .i64 0, .bool false, .bool false, .slice none 0 0, .slice none 0 0, .slice none 0 0, .int .i64 0, .bool false, .bool false, .slice none 0 0, .slice none 0 0, .slice none 0 0, .int .i64 0] 47)).setRow W1.heap.size #[.int .i64 3, .string ⟨#[]⟩, .slice none 0 0, .int .i64 0, .bool false, .bool false, .slice none 0 0, .slice none 0 0, .slice none 0 0, .int .i64 0, .bool false, .bool false, .slice none 0 0, .slice none 0 0, .slice none 0 0, .int .i64 0]) := ⟨_, rfl⟩
        have hZ2 : (W1.alloc (.cells #[.int .i64 0, .string ⟨#[]⟩, .slice none 0 0, .int .i64 0, .bool false, .bool false, .slice none 0 0, .slice none 0 0, .slice none 0 0, .int .i64 0, .bool false, .bool false, .slice none 0 0, .slice none 0 0, .slice none 0 0, .int .i64 0] 47)).heap[W1.heap.size]? = some (.cells #[.int .i64 0, .string ⟨#[]⟩, .slice none 0 0, .int .i64 0, .bool false, .bool false, .slice none 0 0, .slice none 0 0, .slice none 0 0, .int .i64 0, .bool false, .bool false, .slice none 0 0, .slice none 0 0, .slice none 0 0, .int .i64 0] 47) := heap_alloc_new W1 _
        have hr2 := R.row_lay hZ2 #[.int .i64 3, .string ⟨#[]⟩, .slice none 0 0, .int .i64 0, .bool false, .bool false, .slice none 0 0, .slice none 0 0, .slice none 0 0, .int .i64 0, .bool false, .bool false, .slice none 0 0, .slice none 0 0, .slice none 0 0, .int .i64 0]
        rw [← hW2.out] at hr2
        have s2 : W2.heap.size ≤ wr.heap.size + 2 ∧ wr.heap.size + 2 ≤ W2.heap.size := by rw [hW2.out]; simp; omega
        have HB2 : Hid (Below wr.heap.size wr W2) := (HW1.out.2.alloc (by omega) _).grown hr2.2 (by simp; omega) (fun g hg => by have h2 : W1.heap.size = g := Option.some.inj hg; omega)
        have h2a : W2.heap[wr.heap.size]? = some (.cells cp 47) := (hr2.2.block wr.heap.size (by simp; omega) (by intro h; have h2 : wr.heap.size = W1.heap.size := Option.some.inj h; omega)).trans ((Below.heap_alloc W1 _ wr.heap.size (by omega)).trans HW1.out.1)
        have HH2 : Hid (W2.heap[W1.heap.size]? = some (.cells #[.int .i64 3, .string ⟨#[]⟩, .slice none 0 0, .int .i64 0, .bool false, .bool false, .slice none 0 0, .slice none 0 0, .slice none 0 0, .int .i64 0, .bool false, .bool false, .slice none 0 0, .slice none 0 0, .slice none 0 0, .int .i64 0] 47)) := hr2.1
        have e0 : W1.cell? ⟨wr.heap.size, 0, none⟩ = some (.int .i64 3) := by have h := HW1.out.1; rw [HCp.out, hk3] at h; exact R.at_box' (i := 0) h rfl
        have h2b := h2a
        rw [HCp.out, hk3] at h2b
        have d0 := R.at_box' (i := 0) h2b rfl
        have hn1 : ¬ wr.heap.size = W1.heap.size := by omega
        have hn2 : ¬ W1.heap.size = wr.heap.size := by omega
        have hbp : R.bareP p = ⟨3, ⟨#[]⟩, p.set, 0, R.noSide, R.noSide⟩ := by unfold R.bareP; simp [hk3]
        have d2 := R.at_box' (i := 2) h2b rfl
        have g2 := R.at_box' (i := 2) HH2.out rfl
        have f2 := R.free_box (i := 2) HH2.out
        obtain ⟨W3, hW3⟩ : ∃ W3, Hid (W3 = (W2.setCell ⟨W1.heap.size, 2, none⟩ (.slice so p.set.length sc))) := ⟨_, rfl⟩
        have HH3 : Hid (W3.heap[W1.heap.size]? = some (.cells #[.int .i64 3, .string ⟨#[]⟩, .slice so p.set.length sc, .int .i64 0, .bool false, .bool false, .slice none 0 0, .slice none 0 0, .slice none 0 0, .int .i64 0, .bool false, .bool false, .slice none 0 0, .slice none 0 0, .slice none 0 0, .int .i64 0] 47)) := by
          rw [hW3.out]
          have x2 : (W2.setCell ⟨W1.heap.size, 2, none⟩ (.slice so p.set.length sc)).heap[W1.heap.size]? = some (.cells #[.int .i64 3, .string ⟨#[]⟩, .slice so p.set.length sc, .int .i64 0, .bool false, .bool false, .slice none 0 0, .slice none 0 0, .slice none 0 0, .int .i64 0, .bool false, .bool false, .slice none 0 0, .slice none 0 0, .slice none 0 0, .int .i64 0] 47) := heap_setCell_same _ _ 2 _ _ _ HH2.out
          exact x2
        have hg3 : W2.grownBy W3 (some W1.heap.size) := by rw [hW3.out]; exact (R.grown_set _ _ _ _)
        have s3 : W3.heap.size ≤ wr.heap.size + 2 ∧ wr.heap.size + 2 ≤ W3.heap.size := by rw [hW3.out]; simp; omega
        have HK3 : Hid (∀ b, b < wr.heap.size → W3.heap[b]? = wr.heap[b]?) := fun b hb => (hg3.block b (by omega) (by intro h; have h2 : b = W1.heap.size := Option.some.inj h; omega)).trans (HB2.out.block b hb)
        have HB3 : Hid (Below w.heap.size w W3) := (HB.out.trans (HB2.out.mono hsb)).grown hg3 (by omega) (fun g hg => by have h2 : W1.heap.size = g := Option.some.inj hg; omega)
        obtain ⟨cq, HCq⟩ : ∃ cq : Array Value, Hid (cq = #[.int .i64 3, .string ⟨#[]⟩, .slice so p.set.length sc, .int .i64 0, .bool false, .bool false, .slice none 0 0, .slice none 0 0, .slice none 0 0, .int .i64 0, .bool false, .bool false, .slice none 0 0, .slice none 0 0, .slice none 0 0, .int .i64 0]) := ⟨_, rfl⟩
        have hlq : (loadVar 47 ⟨W1.heap.size, 0, none⟩).run Tryz.prog W3 = .ok (.agg cq) W3 := by rw [HCq.out]; exact run_loadVar_row (P := Tryz.prog) W3 W1.heap.size 47 47 _ (0, 0) _ HH3.out Tryz.underlying47 rfl (by kernel_rfl)
        have hbq : (Instr.buildSlice 22 1 #[(0, .agg cq)]).run Tryz.prog W3 = .ok (.slice (some ⟨W3.heap.size, 0, none⟩) 1 1) (W3.alloc (.cells cq 47)) := by rw [HCq.out]; exact R.bs_run W3 _ _ _ _ _ _ _ _ _ _ _ _ _ _ _ _
        have HR4 : Hid (R.RowPB w w.heap.size (W3.alloc (.cells cq 47)) (.slice vo k vc) ((l.take k).map R.bareP)) := R.Row.below (R.Row.keep HR.out (by omega) (fun b _ hb => HK3.out b hb)) ((Below.refl _ W3).alloc (Nat.le_refl _) _)
        have HO4 : Hid (R.RowPB w (wr.heap.size + 2) (W3.alloc (.cells cq 47)) (.slice (some ⟨W3.heap.size, 0, none⟩) 1 1) [R.bareP p]) := by
          have h := R.Row.one (e := 47) (k := 16) (El := R.PtElB w) (F := wr.heap.size + 2) (w := W3) cq.toList (by rw [HCq.out]; rfl) (by rw [HCq.out]; intro u hu; simp only [List.mem_cons, List.not_mem_nil, or_false] at hu; rcases hu with rfl | rfl | rfl | rfl | rfl | rfl | rfl | rfl | rfl | rfl | rfl | rfl | rfl | rfl | rfl | rfl <;> rfl) (x := R.bareP p) ?_ (by omega)
          · exact h
          · rw [HCq.out, hbp]
            intro w' hkk ho
            exact ⟨so, sc, _, _, _, _, _, _, _, _, _, _, _, _, rfl, R.Old.rd HS0.out.1 ho, HS0.out.2.1, R.noSide_is w', R.noSide_is w', R.noName, by simp [R.I64]⟩
        have HB4 : Hid (Below w.heap.size w (W3.alloc (.cells cq 47))) := HB3.out.alloc HB3.out.size _
        clear h2a h2b hbp hr2 hg3
        go_wp2_with first
          | (refine R.list_load rfl 47 (.tmp 11) rfl ⟨b, off + k * 16, none⟩ (.agg cp) rfl hld ?_)
          | (refine wpList_store_row rfl 47 (.tmp 5) (.tmp 12) rfl wr.heap.size cp rfl rfl 47 _ hZ1 hinf (HS1.out hZ1) hcp1 ?_; rw [← hW1.out])
          | (refine wpList_store_row rfl 47 (.tmp 6) (.tmp 15) rfl W1.heap.size #[.int .i64 3, .string ⟨#[]⟩, .slice none 0 0, .int .i64 0, .bool false, .bool false, .slice none 0 0, .slice none 0 0, .slice none 0 0, .int .i64 0, .bool false, .bool false, .slice none 0 0, .slice none 0 0, .slice none 0 0, .int .i64 0] rfl rfl 47 _ hZ2 (by kernel_rfl) rfl (by simp [Value.oneCell']) ?_; rw [← hW2.out])
          | (rw [← hW3.out]; refine R.list_load rfl 47 (.tmp 6) rfl ⟨W1.heap.size, 0, none⟩ (.agg cq) rfl hlq ?_)
          | (refine R.list_bs rfl 22 1 (.tmp 53) rfl (.agg cq) rfl _ hbq ?_)
          | (at_builtin; refine R.list_add R.elemP rfl _ _ rfl _ _ ((l.take k).map R.bareP) [R.bareP p] rfl rfl HR4.out HO4.out (by omega) (fun g hg => by have := HLt.out g hg; omega) (by simp; omega) (by simp; omega) ?_; intro v5 w5 R5 g5 n5)
          | fail
        have HB5 : Hid (Below w.heap.size w w5) := Below.grown HB4.out g5 (by simp; omega) (fun j hj => (HLt.out j hj).1)
        rw [HNx.out] at R5
        obtain ⟨vo5, vc5, hv5⟩ := R.Row.slice R5
        rw [HLn.out] at hv5
        subst hv5
        have HR5 : Hid (R.RowPB w w.heap.size w5 (.slice vo5 (k + 1) vc5) ((l.take (k + 1)).map R.bareP)) := R5
        clear R5 g5 n5 hlq hbq
        go_wp2
        go_roundw
        case rel => exact ⟨k + 1, vo5, vc5, by omega, by simp, rfl, HR5, HB5⟩
        case measure => simp [intOf]; omega
      · as_aux_lemma =>
        obtain ⟨cb, HCb⟩ : ∃ cb : Array Value, Hid (cb = #[.int .i64 4, .string ⟨#[]⟩, .slice none 0 0, .int .i64 0, .bool false, .bool false, .slice none 0 0, .slice none 0 0, .slice none 0 0, .int .i64 0, .bool false, .bool false, .slice none 0 0, .slice none 0 0, .slice none 0 0, .int .i64 0]) := ⟨_, rfl⟩
        obtain ⟨W2, hW2⟩ : ∃ W2, Hid (W2 = (W1.alloc (.cells #[.int .i64 0, .string ⟨#[]⟩, .slice none 0 0, .int .i64 0, .bool false, .bool false, .slice none 0 0, .slice none 0 0, .slice none 0 0, .int .i64 0, .bool false, .bool false, .slice none 0 0, .slice none 0 0, .slice none 0 0, .int .i64 0] 47)).setRow W1.heap.size #[.int .i64 4, .string ⟨#[]⟩, .slice none 0 0, .int .i64 0, .bool false, .bool false, .slice none 0 0, .slice none 0 0, .slice none 0 0, .int .i64 0, .bool false, .bool false, .slice none 0 0, .slice none 0 0, .slice none 0 0, .int .i64 0]) := ⟨_, rfl⟩
        have hZ2 : (W1.alloc (.cells #[.int .i64 0, .string ⟨#[]⟩, .slice none 0 0, .int .i64 0, .bool false, .bool false, .slice none 0 0, .slice none 0 0, .slice none 0 0, .int .i64 0, .bool false, .bool false, .slice none 0 0, .slice none 0 0, .slice none 0 0, .int .i64 0] 47)).heap[W1.heap.size]? = some (.cells #[.int .i64 0, .string ⟨#[]⟩, .slice none 0 0, .int .i64 0, .bool false, .bool false, .slice none 0 0, .slice none 0 0, .slice none 0 0, .int .i64 0, .bool false, .bool false, .slice none 0 0, .slice none 0 0, .slice none 0 0, .int .i64 0] 47) := heap_alloc_new W1 _
        have hr2 := R.row_lay hZ2 #[.int .i64 4, .string ⟨#[]⟩, .slice none 0 0, .int .i64 0, .bool false, .bool false, .slice none 0 0, .slice none 0 0, .slice none 0 0, .int .i64 0, .bool false, .bool false, .slice none 0 0, .slice none 0 0, .slice none 0 0, .int .i64 0]
        rw [← hW2.out] at hr2
        have s2 : W2.heap.size ≤ wr.heap.size + 2 ∧ wr.heap.size + 2 ≤ W2.heap.size := by rw [hW2.out]; simp; omega
        have HB2 : Hid (Below wr.heap.size wr W2) := (HW1.out.2.alloc (by omega) _).grown hr2.2 (by simp; omega) (fun g hg => by have h2 : W1.heap.size = g := Option.some.inj hg; omega)
        have h2a : W2.heap[wr.heap.size]? = some (.cells cp 47) := (hr2.2.block wr.heap.size (by simp; omega) (by intro h; have h2 : wr.heap.size = W1.heap.size := Option.some.inj h; omega)).trans ((Below.heap_alloc W1 _ wr.heap.size (by omega)).trans HW1.out.1)
        have HH2 : Hid (W2.heap[W1.heap.size]? = some (.cells #[.int .i64 4, .string ⟨#[]⟩, .slice none 0 0, .int .i64 0, .bool false, .bool false, .slice none 0 0, .slice none 0 0, .slice none 0 0, .int .i64 0, .bool false, .bool false, .slice none 0 0, .slice none 0 0, .slice none 0 0, .int .i64 0] 47)) := hr2.1
        have e0 : W1.cell? ⟨wr.heap.size, 0, none⟩ = some (.int .i64 4) := by have h := HW1.out.1; rw [HCp.out, hk4] at h; exact R.at_box' (i := 0) h rfl
        have h2b := h2a
        rw [HCp.out, hk4] at h2b
        have d0 := R.at_box' (i := 0) h2b rfl
        have hn1 : ¬ wr.heap.size = W1.heap.size := by omega
        have hn2 : ¬ W1.heap.size = wr.heap.size := by omega
        have hbp : R.bareP p = ⟨4, p.name, [], 0, R.noSide, R.noSide⟩ := by unfold R.bareP; simp [hk4]
        have d1 := R.at_box' (i := 1) h2b rfl
        have g1 := R.at_box' (i := 1) HH2.out rfl
        have f1 := R.free_box (i := 1) HH2.out
        obtain ⟨W3, hW3⟩ : ∃ W3, Hid (W3 = (W2.setCell ⟨W1.heap.size, 1, none⟩ (.string p.name))) := ⟨_, rfl⟩
        have HH3 : Hid (W3.heap[W1.heap.size]? = some (.cells #[.int .i64 4, .string p.name, .slice none 0 0, .int .i64 0, .bool false, .bool false, .slice none 0 0, .slice none 0 0, .slice none 0 0, .int .i64 0, .bool false, .bool false, .slice none 0 0, .slice none 0 0, .slice none 0 0, .int .i64 0] 47)) := by
          rw [hW3.out]
          have x1 : (W2.setCell ⟨W1.heap.size, 1, none⟩ (.string p.name)).heap[W1.heap.size]? = some (.cells #[.int .i64 4, .string p.name, .slice none 0 0, .int .i64 0, .bool false, .bool false, .slice none 0 0, .slice none 0 0, .slice none 0 0, .int .i64 0, .bool false, .bool false, .slice none 0 0, .slice none 0 0, .slice none 0 0, .int .i64 0] 47) := heap_setCell_same _ _ 1 _ _ _ HH2.out
          exact x1
        have hg3 : W2.grownBy W3 (some W1.heap.size) := by rw [hW3.out]; exact (R.grown_set _ _ _ _)
        have s3 : W3.heap.size ≤ wr.heap.size + 2 ∧ wr.heap.size + 2 ≤ W3.heap.size := by rw [hW3.out]; simp; omega
        have HK3 : Hid (∀ b, b < wr.heap.size → W3.heap[b]? = wr.heap[b]?) := fun b hb => (hg3.block b (by omega) (by intro h; have h2 : b = W1.heap.size := Option.some.inj h; omega)).trans (HB2.out.block b hb)
        have HB3 : Hid (Below w.heap.size w W3) := (HB.out.trans (HB2.out.mono hsb)).grown hg3 (by omega) (fun g hg => by have h2 : W1.heap.size = g := Option.some.inj hg; omega)
        obtain ⟨cq, HCq⟩ : ∃ cq : Array Value, Hid (cq = #[.int .i64 4, .string p.name, .slice none 0 0, .int .i64 0, .bool false, .bool false, .slice none 0 0, .slice none 0 0, .slice none 0 0, .int .i64 0, .bool false, .bool false, .slice none 0 0, .slice none 0 0, .slice none 0 0, .int .i64 0]) := ⟨_, rfl⟩
        have hlq : (loadVar 47 ⟨W1.heap.size, 0, none⟩).run Tryz.prog W3 = .ok (.agg cq) W3 := by rw [HCq.out]; exact run_loadVar_row (P := Tryz.prog) W3 W1.heap.size 47 47 _ (0, 0) _ HH3.out Tryz.underlying47 rfl (by kernel_rfl)
        have hbq : (Instr.buildSlice 22 1 #[(0, .agg cq)]).run Tryz.prog W3 = .ok (.slice (some ⟨W3.heap.size, 0, none⟩) 1 1) (W3.alloc (.cells cq 47)) := by rw [HCq.out]; exact R.bs_run W3 _ _ _ _ _ _ _ _ _ _ _ _ _ _ _ _
        have HR4 : Hid (R.RowPB w w.heap.size (W3.alloc (.cells cq 47)) (.slice vo k vc) ((l.take k).map R.bareP)) := R.Row.below (R.Row.keep HR.out (by omega) (fun b _ hb => HK3.out b hb)) ((Below.refl _ W3).alloc (Nat.le_refl _) _)
        have HO4 : Hid (R.RowPB w (wr.heap.size + 2) (W3.alloc (.cells cq 47)) (.slice (some ⟨W3.heap.size, 0, none⟩) 1 1) [R.bareP p]) := by
          have h := R.Row.one (e := 47) (k := 16) (El := R.PtElB w) (F := wr.heap.size + 2) (w := W3) cq.toList (by rw [HCq.out]; rfl) (by rw [HCq.out]; intro u hu; simp only [List.mem_cons, List.not_mem_nil, or_false] at hu; rcases hu with rfl | rfl | rfl | rfl | rfl | rfl | rfl | rfl | rfl | rfl | rfl | rfl | rfl | rfl | rfl | rfl <;> rfl) (x := R.bareP p) ?_ (by omega)
          · exact h
          · rw [HCq.out, hbp]
            intro w' hkk ho
            exact ⟨none, 0, _, _, _, _, _, _, _, _, _, _, _, _, rfl, S.Rd.nil w', (fun x hx => by cases hx), R.noSide_is w', R.noSide_is w', HS0.out.2.2.1, by simp [R.I64]⟩
        have HB4 : Hid (Below w.heap.size w (W3.alloc (.cells cq 47))) := HB3.out.alloc HB3.out.size _
        clear h2a h2b hbp hr2 hg3
        go_wp2_with first
          | (refine R.list_load rfl 47 (.tmp 11) rfl ⟨b, off + k * 16, none⟩ (.agg cp) rfl hld ?_)
          | (refine wpList_store_row rfl 47 (.tmp 5) (.tmp 12) rfl wr.heap.size cp rfl rfl 47 _ hZ1 hinf (HS1.out hZ1) hcp1 ?_; rw [← hW1.out])
          | (refine wpList_store_row rfl 47 (.tmp 6) (.tmp 15) rfl W1.heap.size #[.int .i64 4, .string ⟨#[]⟩, .slice none 0 0, .int .i64 0, .bool false, .bool false, .slice none 0 0, .slice none 0 0, .slice none 0 0, .int .i64 0, .bool false, .bool false, .slice none 0 0, .slice none 0 0, .slice none 0 0, .int .i64 0] rfl rfl 47 _ hZ2 (by kernel_rfl) rfl (by simp [Value.oneCell']) ?_; rw [← hW2.out])
          | (rw [← hW3.out]; refine R.list_load rfl 47 (.tmp 6) rfl ⟨W1.heap.size, 0, none⟩ (.agg cq) rfl hlq ?_)
          | (refine R.list_bs rfl 22 1 (.tmp 53) rfl (.agg cq) rfl _ hbq ?_)
          | (at_builtin; refine R.list_add R.elemP rfl _ _ rfl _ _ ((l.take k).map R.bareP) [R.bareP p] rfl rfl HR4.out HO4.out (by omega) (fun g hg => by have := HLt.out g hg; omega) (by simp; omega) (by simp; omega) ?_; intro v5 w5 R5 g5 n5)
          | fail
        have HB5 : Hid (Below w.heap.size w w5) := Below.grown HB4.out g5 (by simp; omega) (fun j hj => (HLt.out j hj).1)
        rw [HNx.out] at R5
        obtain ⟨vo5, vc5, hv5⟩ := R.Row.slice R5
        rw [HLn.out] at hv5
        subst hv5
        have HR5 : Hid (R.RowPB w w.heap.size w5 (.slice vo5 (k + 1) vc5) ((l.take (k + 1)).map R.bareP)) := R5
        clear R5 g5 n5 hlq hbq
        go_wp2
        go_roundw
        case rel => exact ⟨k + 1, vo5, vc5, by omega, by simp, rfl, HR5, HB5⟩
        case measure => simp [intOf]; omega
      · as_aux_lemma =>
        obtain ⟨cb, HCb⟩ : ∃ cb : Array Value, Hid (cb = #[.int .i64 2, .string ⟨#[]⟩, .slice none 0 0, .int .i64 0, .bool false, .bool false, .slice none 0 0, .slice none 0 0, .slice none 0 0, .int .i64 0, .bool false, .bool false, .slice none 0 0, .slice none 0 0, .slice none 0 0, .int .i64 0]) := ⟨_, rfl⟩
        obtain ⟨W2, hW2⟩ : ∃ W2, Hid (W2 = (W1.alloc (.cells #[.int .i64 0, .string ⟨#[]⟩, .slice none 0 0, .int .i64 0, .bool false, .bool false, .slice none 0 0, .slice none 0 0, .slice none 0 0, .int .i64 0, .bool false, .bool false, .slice none 0 0, .slice none 0 0, .slice none 0 0, .int .i64 0] 47)).setRow W1.heap.size #[.int .i64 2, .string ⟨#[]⟩, .slice none 0 0, .int .i64 0, .bool false, .bool false, .slice none 0 0, .slice none 0 0, .slice none 0 0, .int .i64 0, .bool false, .bool false, .slice none 0 0, .slice none 0 0, .slice none 0 0, .int .i64 0]) := ⟨_, rfl⟩
        have hZ2 : (W1.alloc (.cells #[.int .i64 0, .string ⟨#[]⟩, .slice none 0 0, .int .i64 0, .bool false, .bool false, .slice none 0 0, .slice none 0 0, .slice none 0 0, .int .i64 0, .bool false, .bool false, .slice none 0 0, .slice none 0 0, .slice none 0 0, .int .i64 0] 47)).heap[W1.heap.size]? = some (.cells #[.int .i64 0, .string ⟨#[]⟩, .slice none 0 0, .int .i64 0, .bool false, .bool false, .slice none 0 0, .slice none 0 0, .slice none 0 0, .int .i64 0, .bool false, .bool false, .slice none 0 0, .slice none 0 0, .slice none 0 0, .int .i64 0] 47) := heap_alloc_new W1 _
        have hr2 := R.row_lay hZ2 #[.int .i64 2, .string ⟨#[]⟩, .slice none 0 0, .int .i64 0, .bool false, .bool false, .slice none 0 0, .slice none 0 0, .slice none 0 0, .int .i64 0, .bool false, .bool false, .slice none 0 0, .slice none 0 0, .slice none 0 0, .int .i64 0]
        rw [← hW2.out] at hr2
        have s2 : W2.heap.size ≤ wr.heap.size + 2 ∧ wr.heap.size + 2 ≤ W2.heap.size := by rw [hW2.out]; simp; omega
        have HB2 : Hid (Below wr.heap.size wr W2) := (HW1.out.2.alloc (by omega) _).grown hr2.2 (by simp; omega) (fun g hg => by have h2 : W1.heap.size = g := Option.some.inj hg; omega)
        have h2a : W2.heap[wr.heap.size]? = some (.cells cp 47) := (hr2.2.block wr.heap.size (by simp; omega) (by intro h; have h2 : wr.heap.size = W1.heap.size := Option.some.inj h; omega)).trans ((Below.heap_alloc W1 _ wr.heap.size (by omega)).trans HW1.out.1)
        have HH2 : Hid (W2.heap[W1.heap.size]? = some (.cells #[.int .i64 2, .string ⟨#[]⟩, .slice none 0 0, .int .i64 0, .bool false, .bool false, .slice none 0 0, .slice none 0 0, .slice none 0 0, .int .i64 0, .bool false, .bool false, .slice none 0 0, .slice none 0 0, .slice none 0 0, .int .i64 0] 47)) := hr2.1
        have e0 : W1.cell? ⟨wr.heap.size, 0, none⟩ = some (.int .i64 2) := by have h := HW1.out.1; rw [HCp.out, hk2] at h; exact R.at_box' (i := 0) h rfl
        have h2b := h2a
        rw [HCp.out, hk2] at h2b
        have d0 := R.at_box' (i := 0) h2b rfl
        have hn1 : ¬ wr.heap.size = W1.heap.size := by omega
        have hn2 : ¬ W1.heap.size = wr.heap.size := by omega
        obtain ⟨_, hsl, hsr, _⟩ := R.ruleE_zero hr
        obtain ⟨i1, i2, i3, _⟩ := R.sideE_zero hsl
        obtain ⟨j1, j2, j3, _⟩ := R.sideE_zero hsr
        have hbp : R.bareP p = ⟨2, ⟨#[]⟩, [], p.dir, R.bareS p.left, R.bareS p.right⟩ := by unfold R.bareP; simp [hk2]
        have hll : p.left.before.length ≤ 1000 ∧ p.left.source.length ≤ 1000 ∧ p.left.after.length ≤ 1000 := ⟨by have := (R.itemsE_zero.1 i1).1; omega, by have := (R.itemsE_zero.1 i2).1; omega, by have := (R.itemsE_zero.1 i3).1; omega⟩
        have hlr : p.right.before.length ≤ 1000 ∧ p.right.source.length ≤ 1000 ∧ p.right.after.length ≤ 1000 := ⟨by have := (R.itemsE_zero.1 j1).1; omega, by have := (R.itemsE_zero.1 j2).1; omega, by have := (R.itemsE_zero.1 j3).1; omega⟩
        have HCx : Hid (∀ X, Below w.heap.size w X → Calls Tryz.prog 24 #[.agg #[.bool p.left.start, .bool p.left.fin, .slice lbo p.left.before.length lbc, .slice lso p.left.source.length lsc, .slice lao p.left.after.length lac, .int .i64 p.left.cursor]] X fun e w' => ∃ xo1 xc1 xo2 xc2 xo3 xc3, e = .returned (.agg #[.bool p.left.start, .bool p.left.fin, .slice xo1 p.left.before.length xc1, .slice xo2 p.left.source.length xc2, .slice xo3 p.left.after.length xc3, .int .i64 p.left.cursor]) ∧ R.SdB w X.heap.size w' (.agg #[.bool p.left.start, .bool p.left.fin, .slice xo1 p.left.before.length xc1, .slice xo2 p.left.source.length xc2, .slice xo3 p.left.after.length xc3, .int .i64 p.left.cursor]) (R.bareS p.left) ∧ Below X.heap.size X w') := fun X hX => by
          refine (bareSide_any w X hX _ p.left HSd.out.1 hll).mono fun e w' ⟨v', he, hs, hb⟩ => ?_
          have hs' := hs
          obtain ⟨o1, c1, o2, c2, o3, c3, hv, _⟩ := hs'
          have hv2 : v' = .agg #[.bool p.left.start, .bool p.left.fin, .slice o1 p.left.before.length c1, .slice o2 p.left.source.length c2, .slice o3 p.left.after.length c3, .int .i64 p.left.cursor] := by rw [hv]; simp [R.bareS]
          rw [hv2] at he hs
          exact ⟨o1, c1, o2, c2, o3, c3, he, hs, hb⟩
        have HCy : Hid (∀ X, Below w.heap.size w X → Calls Tryz.prog 24 #[.agg #[.bool p.right.start, .bool p.right.fin, .slice rbo p.right.before.length rbc, .slice rso p.right.source.length rsc, .slice rao p.right.after.length rac, .int .i64 p.right.cursor]] X fun e w' => ∃ yo1 yc1 yo2 yc2 yo3 yc3, e = .returned (.agg #[.bool p.right.start, .bool p.right.fin, .slice yo1 p.right.before.length yc1, .slice yo2 p.right.source.length yc2, .slice yo3 p.right.after.length yc3, .int .i64 p.right.cursor]) ∧ R.SdB w X.heap.size w' (.agg #[.bool p.right.start, .bool p.right.fin, .slice yo1 p.right.before.length yc1, .slice yo2 p.right.source.length yc2, .slice yo3 p.right.after.length yc3, .int .i64 p.right.cursor]) (R.bareS p.right) ∧ Below X.heap.size X w') := fun X hX => by
          refine (bareSide_any w X hX _ p.right HSd.out.2 hlr).mono fun e w' ⟨v', he, hs, hb⟩ => ?_
          have hs' := hs
          obtain ⟨o1, c1, o2, c2, o3, c3, hv, _⟩ := hs'
          have hv2 : v' = .agg #[.bool p.right.start, .bool p.right.fin, .slice o1 p.right.before.length c1, .slice o2 p.right.source.length c2, .slice o3 p.right.after.length c3, .int .i64 p.right.cursor] := by rw [hv]; simp [R.bareS]
          rw [hv2] at he hs
          exact ⟨o1, c1, o2, c2, o3, c3, he, hs, hb⟩
        have HH0 : Hid (W2.heap[wr.heap.size]? = some (.cells #[.int .i64 2, .string p.name, .slice so p.set.length sc, .int .i64 p.dir, .bool p.left.start, .bool p.left.fin, .slice lbo p.left.before.length lbc, .slice lso p.left.source.length lsc, .slice lao p.left.after.length lac, .int .i64 p.left.cursor, .bool p.right.start, .bool p.right.fin, .slice rbo p.right.before.length rbc, .slice rso p.right.source.length rsc, .slice rao p.right.after.length rac, .int .i64 p.right.cursor] 47)) := h2b
        have HHd : Hid (W2.drew.heap[wr.heap.size]? = some (.cells #[.int .i64 2, .string p.name, .slice so p.set.length sc, .int .i64 p.dir, .bool p.left.start, .bool p.left.fin, .slice lbo p.left.before.length lbc, .slice lso p.left.source.length lsc, .slice lao p.left.after.length lac, .int .i64 p.left.cursor, .bool p.right.start, .bool p.right.fin, .slice rbo p.right.before.length rbc, .slice rso p.right.source.length rsc, .slice rao p.right.after.length rac, .int .i64 p.right.cursor] 47)) := h2b
        have HBw : Hid (Below w.heap.size w W2) := HB.out.trans (HB2.out.mono hsb)
        clear hsl hsr i1 i2 i3 j1 j2 j3 hll hlr h2a h2b hr2
        go_wp2_with first
          | (refine R.list_load rfl 47 (.tmp 11) rfl ⟨b, off + k * 16, none⟩ (.agg cp) rfl hld ?_)
          | (refine wpList_store_row rfl 47 (.tmp 5) (.tmp 12) rfl wr.heap.size cp rfl rfl 47 _ hZ1 hinf (HS1.out hZ1) hcp1 ?_; rw [← hW1.out])
          | (refine wpList_store_row rfl 47 (.tmp 6) (.tmp 15) rfl W1.heap.size #[.int .i64 2, .string ⟨#[]⟩, .slice none 0 0, .int .i64 0, .bool false, .bool false, .slice none 0 0, .slice none 0 0, .slice none 0 0, .int .i64 0, .bool false, .bool false, .slice none 0 0, .slice none 0 0, .slice none 0 0, .int .i64 0] rfl rfl 47 _ hZ2 (by kernel_rfl) rfl (by simp [Value.oneCell']) ?_; rw [← hW2.out])
          | fail
        clear hld hZ1 hinf HS1 hcp1 hcpn hW1 hZ2 hW2 e0
        refine wp_region_held_drew (S := fun w' => w'.heap[wr.heap.size]? = some (.cells #[.int .i64 2, .string p.name, .slice so p.set.length sc, .int .i64 p.dir, .bool p.left.start, .bool p.left.fin, .slice lbo p.left.before.length lbc, .slice lso p.left.source.length lsc, .slice lao p.left.after.length lac, .int .i64 p.left.cursor, .bool p.right.start, .bool p.right.fin, .slice rbo p.right.before.length rbc, .slice rso p.right.source.length rsc, .slice rao p.right.after.length rac, .int .i64 p.right.cursor] 47)) (by kernel_rfl) HHd.out (fun hHeld => ?_)
        refine wpAnyH_take (i := 0) (v := ?v0) rfl (by kernel_rfl) (by kernel_rfl) (by kernel_rfl) (fun _ _ _ h => h) (Or.inl ⟨by rfl, ?hy0⟩) (by assumption) ?rest0
        case hy0 =>
          intro wS hSw
          (try dsimp only at hSw)
          clear hSw
          go_simp
          try (with_reducible rfl)
        try simp only [Act.put, List.setIfInBounds_toArray, List.set_cons_zero, List.set_cons_succ]
        refine wpAnyH_take (i := 1) (v := ?v1) rfl (by kernel_rfl) (by kernel_rfl) (by kernel_rfl) (fun _ _ _ h => h) (Or.inl ⟨by rfl, ?hy1⟩) (by assumption) ?rest1
        case hy1 =>
          intro wS hSw
          (try dsimp only at hSw)
          have e3 := R.at_box' (i := 3) hSw rfl
          clear hSw
          go_simp
          try (with_reducible rfl)
        try simp only [Act.put, List.setIfInBounds_toArray, List.set_cons_zero, List.set_cons_succ]
        refine wpAnyH_take (i := 2) (v := ?v2) rfl (by kernel_rfl) (by kernel_rfl) (by kernel_rfl) (fun _ _ _ h => h) (Or.inl ⟨by rfl, ?hy2⟩) (by assumption) ?rest2
        case hy2 =>
          intro wS hSw
          (try dsimp only at hSw)
          clear hSw
          go_simp
          try (with_reducible rfl)
        try simp only [Act.put, List.setIfInBounds_toArray, List.set_cons_zero, List.set_cons_succ]
        refine wpAnyH_take (i := 3) (v := ?v3) rfl (by kernel_rfl) (by kernel_rfl) (by kernel_rfl) (fun _ _ _ h => h) (Or.inl ⟨by rfl, ?hy3⟩) (by assumption) ?rest3
        case hy3 =>
          intro wS hSw
          (try dsimp only at hSw)
          have e4 := R.at_box' (i := 4) hSw rfl
          have e5 := R.at_box' (i := 5) hSw rfl
          have e6 := R.at_box' (i := 6) hSw rfl
          have e7 := R.at_box' (i := 7) hSw rfl
          have e8 := R.at_box' (i := 8) hSw rfl
          have e9 := R.at_box' (i := 9) hSw rfl
          clear hSw
          go_simp
          try (with_reducible rfl)
        try simp only [Act.put, List.setIfInBounds_toArray, List.set_cons_zero, List.set_cons_succ]
        refine wpAnyH_take (i := 5) (v := ?v5) rfl (by kernel_rfl) (by kernel_rfl) (by kernel_rfl) (fun _ _ _ h => h) (Or.inl ⟨by rfl, ?hy5⟩) (by assumption) ?rest5
        case hy5 =>
          intro wS hSw
          (try dsimp only at hSw)
          clear hSw
          go_simp
          try (with_reducible rfl)
        try simp only [Act.put, List.setIfInBounds_toArray, List.set_cons_zero, List.set_cons_succ]
        refine wpAnyH_take (i := 6) (v := ?v6) rfl (by kernel_rfl) (by kernel_rfl) (by kernel_rfl) (fun _ _ _ h => h) (Or.inl ⟨by rfl, ?hy6⟩) (by assumption) ?rest6
        case hy6 =>
          intro wS hSw
          (try dsimp only at hSw)
          have e10 := R.at_box' (i := 10) hSw rfl
          have e11 := R.at_box' (i := 11) hSw rfl
          have e12 := R.at_box' (i := 12) hSw rfl
          have e13 := R.at_box' (i := 13) hSw rfl
          have e14 := R.at_box' (i := 14) hSw rfl
          have e15 := R.at_box' (i := 15) hSw rfl
          clear hSw
          go_simp
          try (with_reducible rfl)
        try simp only [Act.put, List.setIfInBounds_toArray, List.set_cons_zero, List.set_cons_succ]
        refine wpAnyH_take (i := 8) (v := ?v8) rfl (by kernel_rfl) (by kernel_rfl) (by kernel_rfl) (fun _ _ _ h => h) (Or.inl ⟨by rfl, ?hy8⟩) (by assumption) ?rest8
        case hy8 =>
          intro wS hSw
          (try dsimp only at hSw)
          clear hSw
          go_simp
          try (with_reducible rfl)
        try simp only [Act.put, List.setIfInBounds_toArray, List.set_cons_zero, List.set_cons_succ]
        refine wpAnyH_ready (rs := [4]) (by kernel_rfl) (by simp) ?_
        refine AllReadyH.cons rfl (fun K hK => ?_) AllReadyH.nil
        go_simp
        go_at_call 24
        refine (HCx.out _ HBw.out.drew).mono ?_
        rintro e w1 ⟨xo1, xc1, xo2, xc2, xo3, xc3, rfl, r1, z1⟩
        have k1 : w1.heap[wr.heap.size]? = some (.cells #[.int .i64 2, .string p.name, .slice so p.set.length sc, .int .i64 p.dir, .bool p.left.start, .bool p.left.fin, .slice lbo p.left.before.length lbc, .slice lso p.left.source.length lsc, .slice lao p.left.after.length lac, .int .i64 p.left.cursor, .bool p.right.start, .bool p.right.fin, .slice rbo p.right.before.length rbc, .slice rso p.right.source.length rsc, .slice rao p.right.after.length rac, .int .i64 p.right.cursor] 47) := R.blk_below (w := W2.drew) HH0.out z1
        try go_wp2_with fail
        refine hK.out _ _ (k1) (fun hH1 => ?_)
        clear hK K
        try simp only [Act.put, List.setIfInBounds_toArray, List.set_cons_zero, List.set_cons_succ]
        refine wpAnyH_ready (rs := [7]) (by kernel_rfl) (by simp) ?_
        refine AllReadyH.cons rfl (fun K hK => ?_) AllReadyH.nil
        go_simp
        go_at_call 24
        refine (HCy.out w1 (HBw.out.drew.trans (z1.mono (by have h : W2.drew.heap.size = W2.heap.size := rfl; omega)))).mono ?_
        rintro e w2 ⟨yo1, yc1, yo2, yc2, yo3, yc3, rfl, r2, z2⟩
        have k2 : w2.heap[wr.heap.size]? = some (.cells #[.int .i64 2, .string p.name, .slice so p.set.length sc, .int .i64 p.dir, .bool p.left.start, .bool p.left.fin, .slice lbo p.left.before.length lbc, .slice lso p.left.source.length lsc, .slice lao p.left.after.length lac, .int .i64 p.left.cursor, .bool p.right.start, .bool p.right.fin, .slice rbo p.right.before.length rbc, .slice rso p.right.source.length rsc, .slice rao p.right.after.length rac, .int .i64 p.right.cursor] 47) := R.blk_below k1 z2
        have q2 : w2.heap[W1.heap.size]? = some (.cells #[.int .i64 2, .string ⟨#[]⟩, .slice none 0 0, .int .i64 0, .bool false, .bool false, .slice none 0 0, .slice none 0 0, .slice none 0 0, .int .i64 0, .bool false, .bool false, .slice none 0 0, .slice none 0 0, .slice none 0 0, .int .i64 0] 47) := R.blk_below (R.blk_below (w := W2.drew) HH2.out z1) z2
        try go_wp2_with fail
        refine hK.out _ _ (k2) (fun hH2 => ?_)
        clear hK K
        try simp only [Act.put, List.setIfInBounds_toArray, List.set_cons_zero, List.set_cons_succ]
        obtain ⟨X3, X4, W3, t3, t4, t5, hF, gX3, gX4, hg3⟩ := R.stores q2 p.dir p.left.start p.left.fin xo1 xo2 xo3 p.left.before.length p.left.source.length p.left.after.length xc1 xc2 xc3 p.left.cursor p.right.start p.right.fin yo1 yo2 yo3 p.right.before.length p.right.source.length p.right.after.length yc1 yc2 yc3 p.right.cursor
        have kx : ∀ X, w2.grownBy X (some W1.heap.size) → X.heap[wr.heap.size]? = some (.cells #[.int .i64 2, .string p.name, .slice so p.set.length sc, .int .i64 p.dir, .bool p.left.start, .bool p.left.fin, .slice lbo p.left.before.length lbc, .slice lso p.left.source.length lsc, .slice lao p.left.after.length lac, .int .i64 p.left.cursor, .bool p.right.start, .bool p.right.fin, .slice rbo p.right.before.length rbc, .slice rso p.right.source.length rsc, .slice rao p.right.after.length rac, .int .i64 p.right.cursor] 47) := fun X hX => (hX.block wr.heap.size (by have := z1.size; have := z2.size; have h : W2.drew.heap.size = W2.heap.size := rfl; omega) (by intro h; have h2 : wr.heap.size = W1.heap.size := Option.some.inj h; omega)).trans k2
        refine wpAnyH_ready (rs := [9]) (by kernel_rfl) (by simp) ?_
        refine AllReadyH.cons rfl (fun K hK => ?_) AllReadyH.nil
        refine R.step_store (by rfl) 3 (.tmp 49) (.tmp 42) (by rfl) ⟨W1.heap.size, 3, none⟩ (.int .i64 p.dir) X3 (by rfl) (by rfl) t3 ?_
        refine hK.out _ _ (kx X3 gX3) (fun hH3 => ?_)
        clear hK K
        try simp only [Act.put, List.setIfInBounds_toArray, List.set_cons_zero, List.set_cons_succ]
        refine wpAnyH_take (i := 10) (v := ?v10) rfl (by kernel_rfl) (by kernel_rfl) (by kernel_rfl) (fun _ _ _ h => h) (Or.inl ⟨by rfl, ?hy10⟩) (by assumption) ?rest10
        case hy10 =>
          intro wS hSw
          (try dsimp only at hSw)
          clear hSw
          go_simp
          try (with_reducible rfl)
        try simp only [Act.put, List.setIfInBounds_toArray, List.set_cons_zero, List.set_cons_succ]
        refine wpAnyH_ready (rs := [11]) (by kernel_rfl) (by simp) ?_
        refine AllReadyH.cons rfl (fun K hK => ?_) AllReadyH.nil
        refine R.step_store (by rfl) 45 (.tmp 50) (.tmp 45) (by rfl) ⟨W1.heap.size, 4, none⟩ (.agg #[.bool p.left.start, .bool p.left.fin, .slice xo1 p.left.before.length xc1, .slice xo2 p.left.source.length xc2, .slice xo3 p.left.after.length xc3, .int .i64 p.left.cursor]) X4 (by rfl) (by rfl) t4 ?_
        refine hK.out _ _ (kx X4 gX4) (fun hH4 => ?_)
        clear hK K
        try simp only [Act.put, List.setIfInBounds_toArray, List.set_cons_zero, List.set_cons_succ]
        refine wpAnyH_take (i := 12) (v := ?v12) rfl (by kernel_rfl) (by kernel_rfl) (by kernel_rfl) (fun _ _ _ h => h) (Or.inl ⟨by rfl, ?hy12⟩) (by assumption) ?rest12
        case hy12 =>
          intro wS hSw
          (try dsimp only at hSw)
          clear hSw
          go_simp
          try (with_reducible rfl)
        try simp only [Act.put, List.setIfInBounds_toArray, List.set_cons_zero, List.set_cons_succ]
        refine wpAnyH_ready (rs := [13]) (by kernel_rfl) (by simp) ?_
        refine AllReadyH.cons rfl (fun K hK => ?_) AllReadyH.nil
        refine R.step_store (by rfl) 45 (.tmp 51) (.tmp 48) (by rfl) ⟨W1.heap.size, 10, none⟩ (.agg #[.bool p.right.start, .bool p.right.fin, .slice yo1 p.right.before.length yc1, .slice yo2 p.right.source.length yc2, .slice yo3 p.right.after.length yc3, .int .i64 p.right.cursor]) W3 (by rfl) (by rfl) t5 ?_
        refine hK.out _ _ (kx W3 hg3) (fun hH5 => ?_)
        clear hK K
        try simp only [Act.put, List.setIfInBounds_toArray, List.set_cons_zero, List.set_cons_succ]
        refine wpAnyH_done (by kernel_rfl) ?_ _
        clear hHeld hH1 hH2 hH3 hH4 hH5 t3 t4 t5 kx gX3 gX4 q2
        as_aux_lemma =>
          have hd : W2.drew.heap.size = W2.heap.size := rfl
          have hz1 := z1.size
          have hz2 := z2.size
          have HBz : Hid (Below w.heap.size w w2 ∧ Below wr.heap.size wr w2) := ⟨(HBw.out.drew.trans (z1.mono (by omega))).trans (z2.mono (by omega)), (HB2.out.drew.trans (z1.mono (by omega))).trans (z2.mono (by omega))⟩
          have HX : Hid (R.Stays (wr.heap.size + 2) none w2 fun w' => R.Old w w' → R.SdIs w' (.agg #[.bool p.left.start, .bool p.left.fin, .slice xo1 p.left.before.length xc1, .slice xo2 p.left.source.length xc2, .slice xo3 p.left.after.length xc3, .int .i64 p.left.cursor]) (R.bareS p.left)) := (R.Stays.down (R.SdB.is r1) (by omega)).below z2
          have HY : Hid (R.Stays (wr.heap.size + 2) none w2 fun w' => R.Old w w' → R.SdIs w' (.agg #[.bool p.right.start, .bool p.right.fin, .slice yo1 p.right.before.length yc1, .slice yo2 p.right.source.length yc2, .slice yo3 p.right.after.length yc3, .int .i64 p.right.cursor]) (R.bareS p.right)) := R.Stays.down (R.SdB.is r2) (by omega)
          clear z1 z2 r1 r2 k1 k2 HCx HCy
          have HH3 : Hid (W3.heap[W1.heap.size]? = some (.cells #[.int .i64 2, .string ⟨#[]⟩, .slice none 0 0, .int .i64 p.dir, .bool p.left.start, .bool p.left.fin, .slice xo1 p.left.before.length xc1, .slice xo2 p.left.source.length xc2, .slice xo3 p.left.after.length xc3, .int .i64 p.left.cursor, .bool p.right.start, .bool p.right.fin, .slice yo1 p.right.before.length yc1, .slice yo2 p.right.source.length yc2, .slice yo3 p.right.after.length yc3, .int .i64 p.right.cursor] 47)) := hF
          have s3 := hg3.size
          have HK3 : Hid (∀ b, b < wr.heap.size → W3.heap[b]? = wr.heap[b]?) := fun b hb => (hg3.block b (by omega) (by intro h; have h2 : b = W1.heap.size := Option.some.inj h; omega)).trans (HBz.out.2.block b hb)
          have HB3 : Hid (Below w.heap.size w W3) := HBz.out.1.grown hg3 (by omega) (fun g hg => by have h2 : W1.heap.size = g := Option.some.inj hg; omega)
          have HX3 : Hid (R.Stays (wr.heap.size + 2) none W3 fun w' => R.Old w w' → R.SdIs w' (.agg #[.bool p.left.start, .bool p.left.fin, .slice xo1 p.left.before.length xc1, .slice xo2 p.left.source.length xc2, .slice xo3 p.left.after.length xc3, .int .i64 p.left.cursor]) (R.bareS p.left)) := HX.out.cur hg3 (by omega)
          have HY3 : Hid (R.Stays (wr.heap.size + 2) none W3 fun w' => R.Old w w' → R.SdIs w' (.agg #[.bool p.right.start, .bool p.right.fin, .slice yo1 p.right.before.length yc1, .slice yo2 p.right.source.length yc2, .slice yo3 p.right.after.length yc3, .int .i64 p.right.cursor]) (R.bareS p.right)) := HY.out.cur hg3 (by omega)
          obtain ⟨cq, HCq⟩ : ∃ cq : Array Value, Hid (cq = #[.int .i64 2, .string ⟨#[]⟩, .slice none 0 0, .int .i64 p.dir, .bool p.left.start, .bool p.left.fin, .slice xo1 p.left.before.length xc1, .slice xo2 p.left.source.length xc2, .slice xo3 p.left.after.length xc3, .int .i64 p.left.cursor, .bool p.right.start, .bool p.right.fin, .slice yo1 p.right.before.length yc1, .slice yo2 p.right.source.length yc2, .slice yo3 p.right.after.length yc3, .int .i64 p.right.cursor]) := ⟨_, rfl⟩
          have hlq : (loadVar 47 ⟨W1.heap.size, 0, none⟩).run Tryz.prog W3 = .ok (.agg cq) W3 := by rw [HCq.out]; exact run_loadVar_row (P := Tryz.prog) W3 W1.heap.size 47 47 _ (0, 0) _ HH3.out Tryz.underlying47 rfl (by kernel_rfl)
          have hbq : (Instr.buildSlice 22 1 #[(0, .agg cq)]).run Tryz.prog W3 = .ok (.slice (some ⟨W3.heap.size, 0, none⟩) 1 1) (W3.alloc (.cells cq 47)) := by rw [HCq.out]; exact R.bs_run W3 _ _ _ _ _ _ _ _ _ _ _ _ _ _ _ _
          have HR4 : Hid (R.RowPB w w.heap.size (W3.alloc (.cells cq 47)) (.slice vo k vc) ((l.take k).map R.bareP)) := R.Row.below (R.Row.keep HR.out (by omega) (fun b _ hb => HK3.out b hb)) ((Below.refl _ W3).alloc (Nat.le_refl _) _)
          have HO4 : Hid (R.RowPB w (wr.heap.size + 2) (W3.alloc (.cells cq 47)) (.slice (some ⟨W3.heap.size, 0, none⟩) 1 1) [R.bareP p]) := by
            have h := R.Row.one (e := 47) (k := 16) (El := R.PtElB w) (F := wr.heap.size + 2) (w := W3) cq.toList (by rw [HCq.out]; rfl) (by rw [HCq.out]; intro u hu; simp only [List.mem_cons, List.not_mem_nil, or_false] at hu; rcases hu with rfl | rfl | rfl | rfl | rfl | rfl | rfl | rfl | rfl | rfl | rfl | rfl | rfl | rfl | rfl | rfl <;> rfl) (x := R.bareP p) ?_ (by omega)
            · exact h
            · rw [HCq.out, hbp]
              intro w' hkk ho
              exact ⟨none, 0, _, _, _, _, _, _, _, _, _, _, _, _, rfl, S.Rd.nil w', (fun x hx => by cases hx), HX3.out w' hkk ho, HY3.out w' hkk ho, R.noName, HS0.out.2.2.2⟩
          have HB4 : Hid (Below w.heap.size w (W3.alloc (.cells cq 47))) := HB3.out.alloc HB3.out.size _
          clear hF hg3 hbp HX HY HX3 HY3
          go_wp2_with first
            | (refine R.list_load rfl 47 (.tmp 6) rfl ⟨W1.heap.size, 0, none⟩ (.agg cq) rfl hlq ?_)
            | (refine R.list_bs rfl 22 1 (.tmp 53) rfl (.agg cq) rfl _ hbq ?_)
            | (at_builtin; refine R.list_add R.elemP rfl _ _ rfl _ _ ((l.take k).map R.bareP) [R.bareP p] rfl rfl HR4.out HO4.out (by omega) (fun g hg => by have := HLt.out g hg; omega) (by simp; omega) (by simp; omega) ?_; intro v5 w5 R5 g5 n5)
            | fail
          have HB5 : Hid (Below w.heap.size w w5) := Below.grown HB4.out g5 (by simp; omega) (fun j hj => (HLt.out j hj).1)
          rw [HNx.out] at R5
          obtain ⟨vo5, vc5, hv5⟩ := R.Row.slice R5
          rw [HLn.out] at hv5
          subst hv5
          have HR5 : Hid (R.RowPB w w.heap.size w5 (.slice vo5 (k + 1) vc5) ((l.take (k + 1)).map R.bareP)) := R5
          clear R5 g5 n5 hlq hbq
          go_wp2
          go_roundw
          case rel => exact ⟨k + 1, vo5, vc5, by omega, by simp, rfl, HR5, HB5⟩
          case measure => simp [intOf]; omega
    · obtain rfl : k = l.length := by omega
      have HRe : Hid (R.Pts wr (.slice vo l.length vc) (l.map R.bareP)) := by
        have h := HR.out
        rw [List.take_length] at h
        exact R.RowPB.pts h (R.Old.of HB.out)
      go_wp2
      go_ret
      exact ⟨_, rfl, HRe.out, HB.out⟩

end Go.Proofs.YtchkcjaahjhbcabGreatDoor
