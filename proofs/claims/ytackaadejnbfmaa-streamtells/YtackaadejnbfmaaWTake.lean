/-
  What is told after a piece: (*stream.flow).tell.
-/
import Derived.Test.YtackaadejnbfmaaVStep
import Derived.Test.YtackaadejnbfmaaMWrong
import Derived.Lib.MinMax
namespace Go.Proofs.Ytackaadejnbfmaa
open Go.RowKit Go.Lib
set_option maxRecDepth 20000
set_option linter.unusedSimpArgs false
set_option linter.unusedVariables false

/-- what is behind the clone, the append and the two stores -/
theorem Ws.tell_end {F bs : Nat} {w w1 : World} {vl : Value} {ah : Nat} {tv vt : Value} {T : List Int} {k came steps up : Nat} {ts : List (List Int)} (hf : Ws.Fl F bs w vl ah tv vt T k came steps up ts) (hts : ts.length ≤ 1000) (b1 : Below w.heap.size w w1) (x : List Int) (v' : Value) (own : w1.ownsRow w.heap.size 21 1 v' x.length (K.ints x)) :
    ∃ v2 w2, (∀ ty, (Builtin.append_ #[37, 37] ty #[vt, .slice (some ⟨w1.heap.size, 0, none⟩) 1 1]).run Try.prog (w1.alloc (.cells #[v'] 23)) = .ok v2 w2) ∧ (∃ ao cap, v2 = .slice ao (ts.length + 1) cap) ∧ w2.heap[bs]? = some (.cells #[tv, .int .i64 k, vl, .int .i64 ah, .int .i64 came, .int .i64 steps, vt, .int .i64 up] 75) ∧
      Ws.Fl F bs ((w2.setCell ⟨bs, 6, none⟩ v2).setCell ⟨bs, 7, none⟩ (.int .i64 k)) vl ah tv v2 T k came steps k (ts ++ [x]) ∧ Below F w ((w2.setCell ⟨bs, 6, none⟩ v2).setCell ⟨bs, 7, none⟩ (.int .i64 k)) := by
  have hlt : bs < w.heap.size := lt_of_block hf.box
  have hF := hf.hF
  have hs1 := b1.size
  have hT1 : Ws.Told F w1 tv vt ts := Ws.Fl.keepsTold hf.box hf.text hf.told (fun j hj _ _ => b1.block j hj) (.inl rfl)
  have hbox1 := K.blk_below hf.box b1
  have htext1 : w1.ownsRow F 21 1 tv T.length (K.ints T) := Ws.kept1 hf.text fun g hg => b1.block g (hf.text.lt g hg).2
  obtain ⟨ps, h1, h2, h3⟩ := hT1
  have hpl : ps.length = ts.length := by rw [← h1]; simp
  have ownF : w1.ownsRow F 21 1 v' x.length (K.ints x) := L.owns_base own (by omega)
  obtain ⟨v2, w2, hrun, o2, gr, oth⟩ := Ws.push_ps h2 (by omega) (by omega) x v' ownF
  have hal : Below w1.heap.size w1 (w1.alloc (.cells #[v'] 23)) := (Below.refl _ w1).alloc (Nat.le_refl _) _
  have hrow : ∀ j, j < w1.heap.size → vt.ownBlock ≠ some j → w2.heap[j]? = w1.heap[j]? := fun j hj hn => by
    rw [gr.block j (by simp; omega) (fun e => hn e.symm)]; exact hal.block j hj
  have hbox2 : w2.heap[bs]? = some (.cells #[tv, .int .i64 k, vl, .int .i64 ah, .int .i64 came, .int .i64 steps, vt, .int .i64 up] 75) := by
    rw [hrow bs (by omega) (fun e => Ws.box_ne h2 hbox1 (by decide) bs e rfl)]; exact hbox1
  have hbox3 : (w2.setCell ⟨bs, 6, none⟩ v2).heap[bs]? = some (.cells #[tv, .int .i64 k, vl, .int .i64 ah, .int .i64 came, .int .i64 steps, v2, .int .i64 up] 75) := heap_setCell_same w2 bs 6 _ _ _ hbox2
  have hbox4 : ((w2.setCell ⟨bs, 6, none⟩ v2).setCell ⟨bs, 7, none⟩ (.int .i64 k)).heap[bs]? = some (.cells #[tv, .int .i64 k, vl, .int .i64 ah, .int .i64 came, .int .i64 steps, v2, .int .i64 k] 75) := heap_setCell_same _ bs 7 _ _ _ hbox3
  have hoth4 : ∀ j, j ≠ bs → ((w2.setCell ⟨bs, 6, none⟩ v2).setCell ⟨bs, 7, none⟩ (.int .i64 k)).heap[j]? = w2.heap[j]? := fun j hj => by
    rw [heap_setCell_other _ ⟨bs, 7, none⟩ j _ (by simpa using hj), heap_setCell_other _ ⟨bs, 6, none⟩ j _ (by simpa using hj)]
  have hB2 : Below F w w2 := (((b1.mono (by omega)).trans (hal.mono (by omega))).grown gr (by simp; omega) fun g hg => (h2.lt g hg).1)
  have htext2 : w2.ownsRow F 21 1 tv T.length (K.ints T) := oth _ _ _ htext1
  refine ⟨v2, w2, hrun, ?_, hbox2, ⟨hF, hbox4, Ws.kept1 htext2 fun g hg => hoth4 g (Ws.box_ne htext2 hbox2 (by decide) g hg), ps ++ [(x, v')], by simp [h1], Ws.kept1 o2 fun g hg => hoth4 g (Ws.box_ne o2 hbox2 (by decide) g hg), fun p hp => ?_⟩, (hB2.setCell (p := ⟨bs, 6, none⟩) hF _).setCell (p := ⟨bs, 7, none⟩) hF _⟩
  · rcases o2.2 with ⟨_, h0⟩ | ⟨g, cap, cur, hv, _⟩
    · simp at h0
    · refine ⟨some ⟨g, 0, none⟩, cap, ?_⟩
      rw [hv, List.length_append, hpl]; rfl
  · have hkeep : ∀ q : List Int × Value, w1.ownsRow F 21 1 q.2 q.1.length (K.ints q.1) → ((w2.setCell ⟨bs, 6, none⟩ v2).setCell ⟨bs, 7, none⟩ (.int .i64 k)).ownsRow F 21 1 q.2 q.1.length (K.ints q.1) := fun q hq => Ws.kept1 (oth _ _ _ hq) fun g hg => hoth4 g (Ws.box_ne (oth _ _ _ hq) hbox2 (by decide) g hg)
    rcases List.mem_append.1 hp with hp | hp
    · exact ⟨hkeep p (h3 p hp).1, (h3 p hp).2⟩
    · simp at hp
      subst hp
      refine ⟨hkeep (x, v') ownF, fun g hg e => ?_⟩
      have := (own.lt g hg).1
      have := (hf.text.lt g e).2
      omega

set_option maxHeartbeats 16000000 in
theorem wtell_any (F bs : Nat) (w : World) (vl : Value) (ah : Nat) (tv vt : Value) (T : List Int) (k came steps up : Nat) (ts : List (List Int)) (hf : Ws.Fl F bs w vl ah tv vt T k came steps up ts) (hk : k ≤ T.length) (hu : up ≤ k) (h4 : T.length ≤ 4000) (hts : ts.length ≤ 1000) :
    Calls Try.prog 38 #[.pointer (some ⟨bs, 0, none⟩)] w fun e w' => e = .returned (.tuple #[]) ∧ ∃ vt', Ws.Fl F bs w' vl ah tv vt' T k came steps k (ts ++ [(T.take k).drop up]) ∧ Below F w w' := by
  obtain ⟨xo, xc, rfl, hxc⟩ : ∃ xo xc, tv = .slice xo T.length xc ∧ T.length ≤ xc := by
    rcases hf.text.2 with ⟨hv, h0⟩ | ⟨g, cap, cur, hv, _, _, hle, _⟩
    · exact ⟨none, 0, by rw [hv, h0], by omega⟩
    · exact ⟨_, cap, hv, hle⟩
  obtain ⟨to_, tc_, rfl⟩ := hf.told.len
  obtain ⟨x, hx⟩ : ∃ x, x = (T.take k).drop up := ⟨_, rfl⟩
  rw [← hx]
  obtain ⟨xp, hxp⟩ : ∃ xp, xp = (if xc = up then xo else Option.map (fun a => a.add up) xo) := ⟨_, rfl⟩
  have hsl : ∀ w', (Instr.slice 23 (.slice xo T.length xc) (some (.int .i64 (up : Int))) (some (.int .i64 (k : Int))) none).run Try.prog w' = .ok (.slice xp (k - up) (xc - up)) w' := fun w' => by rw [hxp]; exact K.slice_mid xo T.length xc up k hu (by omega) w'
  have hRt : L.Rd w (.slice xp (k - up) (xc - up)) .i32 x := by
    have h1 : L.Rd w (.slice xo (T.take k).length xc) .i32 (T.take k) := by
      rw [List.length_take, Nat.min_eq_left hk]; exact K.rd_take (L.Rd.of_owns hf.text) hk
    have hl : (T.take k).length = k := by rw [List.length_take, Nat.min_eq_left hk]
    have h2 := K.rd_drop h1 (d := up) (by rw [hl]; exact hu) (by rw [hl]; omega)
    rw [hxp, hx]
    rw [hl] at h2
    exact h2
  have hxl : x.length ≤ 4000 := by rw [hx, List.length_drop, List.length_take]; omega
  obtain ⟨m, hm⟩ : ∃ m, m = k - up := ⟨_, rfl⟩
  obtain ⟨mc, hmc⟩ : ∃ mc, mc = xc - up := ⟨_, rfl⟩
  rw [← hm, ← hmc] at hRt
  rw [← hm, ← hmc] at hsl
  have HC : Hid (Calls Try.prog 56 #[.slice xp m mc] w.drew fun e w1 => ∃ vo vn vc v2 w2, e = .returned (.slice vo vn vc) ∧ w1.heap[bs]? = some (.cells #[.slice xo T.length xc, .int .i64 k, vl, .int .i64 ah, .int .i64 came, .int .i64 steps, .slice to_ ts.length tc_, .int .i64 up] 75) ∧
      (∀ ty, (Builtin.append_ #[37, 37] ty #[.slice to_ ts.length tc_, .slice (some ⟨w1.heap.size, 0, none⟩) 1 1]).run Try.prog (w1.alloc (.cells #[.slice vo vn vc] 23)) = .ok v2 w2) ∧ (∃ ao cap, v2 = .slice ao (ts.length + 1) cap) ∧ w2.heap[bs]? = some (.cells #[.slice xo T.length xc, .int .i64 k, vl, .int .i64 ah, .int .i64 came, .int .i64 steps, .slice to_ ts.length tc_, .int .i64 up] 75) ∧
      Ws.Fl F bs ((w2.setCell ⟨bs, 6, none⟩ v2).setCell ⟨bs, 7, none⟩ (.int .i64 k)) vl ah (.slice xo T.length xc) v2 T k came steps k (ts ++ [x]) ∧ Below F w ((w2.setCell ⟨bs, 6, none⟩ v2).setCell ⟨bs, 7, none⟩ (.int .i64 k))) := by
    refine (qclone_any w.drew (.slice xp m mc) x (K.rd_block hRt fun _ _ _ => rfl) hxl).mono ?_
    rintro e w1 ⟨v', rfl, own, b1⟩
    have b1' : Below w.heap.size w w1 := ((Below.refl _ w).drew).trans b1
    obtain ⟨v2, w2, h1, h2, h3, h5, h6⟩ := Ws.tell_end hf hts b1' x v' own
    obtain ⟨vo, vn, vc, rfl⟩ : ∃ vo vn vc, v' = .slice vo vn vc := by
      rcases own.2 with ⟨hv, _⟩ | ⟨g, cap, cur, hv, _⟩
      · exact ⟨_, _, _, hv⟩
      · exact ⟨_, _, _, hv⟩
    exact ⟨vo, vn, vc, v2, w2, rfl, K.blk_below hf.box b1', h1, h2, h3, h5, h6⟩
  have x0 : w.cell? ⟨bs, 0, none⟩ = some (.slice xo T.length xc) := K.at_box (i := 0) hf.box rfl
  have x1 : w.cell? ⟨bs, 1, none⟩ = some (.int .i64 k) := K.at_box (i := 1) hf.box rfl
  have x6 : w.cell? ⟨bs, 6, none⟩ = some (.slice to_ ts.length tc_) := K.at_box (i := 6) hf.box rfl
  have x7 : w.cell? ⟨bs, 7, none⟩ = some (.int .i64 up) := K.at_box (i := 7) hf.box rfl
  clear hRt hx hxp hf hm hmc
  go_enter Try.func38, Try.ntmps38
  go_wp2
  refine wp_region_held_drew (S := fun w' => w'.cell? ⟨bs, 0, none⟩ = some (.slice xo T.length xc) ∧ w'.cell? ⟨bs, 1, none⟩ = some (.int .i64 k) ∧ w'.cell? ⟨bs, 7, none⟩ = some (.int .i64 up)) (by kernel_rfl) ⟨x0, x1, x7⟩ (fun hHeld => ?_)
  refine V.take 0 2 (.pointer (some ⟨bs, 0, none⟩)) [true, false, false, false, false, false, false, false, false, false, false, false, false, false, false, false, false, false, false, false, false, false, false, false, false, false] rfl rfl (by kernel_rfl) (by kernel_rfl) (by kernel_rfl) (by kernel_rfl) (fun _ _ _ h => h) (Or.inl ⟨by rfl, ?_⟩) hHeld ?_
  · intro wz hSw
    go_simp
  simp only [Act.put, List.setIfInBounds_toArray, List.set_cons_zero, List.set_cons_succ]
  refine V.take 1 3 (.pointer (some ⟨bs, 0, none⟩)) [true, true, false, false, false, false, false, false, false, false, false, false, false, false, false, false, false, false, false, false, false, false, false, false, false, false] rfl rfl (by kernel_rfl) (by kernel_rfl) (by kernel_rfl) (by kernel_rfl) (fun _ _ _ h => h) (Or.inl ⟨by rfl, ?_⟩) hHeld ?_
  · intro wz hSw
    go_simp
  simp only [Act.put, List.setIfInBounds_toArray, List.set_cons_zero, List.set_cons_succ]
  refine V.take 2 4 (.pointer (some ⟨bs, 0, none⟩)) [true, true, true, false, false, false, false, false, false, false, false, false, false, false, false, false, false, false, false, false, false, false, false, false, false, false] rfl rfl (by kernel_rfl) (by kernel_rfl) (by kernel_rfl) (by kernel_rfl) (fun _ _ _ h => h) (Or.inl ⟨by rfl, ?_⟩) hHeld ?_
  · intro wz hSw
    go_simp
  simp only [Act.put, List.setIfInBounds_toArray, List.set_cons_zero, List.set_cons_succ]
  refine V.take 3 5 (.pointer (some ⟨bs, 6, none⟩)) [true, true, true, true, false, false, false, false, false, false, false, false, false, false, false, false, false, false, false, false, false, false, false, false, false, false] rfl rfl (by kernel_rfl) (by kernel_rfl) (by kernel_rfl) (by kernel_rfl) (fun _ _ _ h => h) (Or.inl ⟨by rfl, ?_⟩) hHeld ?_
  · intro wz hSw
    go_simp
  simp only [Act.put, List.setIfInBounds_toArray, List.set_cons_zero, List.set_cons_succ]
  refine V.take 5 7 (.pointer (some ⟨bs, 0, none⟩)) [true, true, true, true, false, true, false, false, false, false, false, false, false, false, false, false, false, false, false, false, false, false, false, false, false, false] rfl rfl (by kernel_rfl) (by kernel_rfl) (by kernel_rfl) (by kernel_rfl) (fun _ _ _ h => h) (Or.inl ⟨by rfl, ?_⟩) hHeld ?_
  · intro wz hSw
    go_simp
  simp only [Act.put, List.setIfInBounds_toArray, List.set_cons_zero, List.set_cons_succ]
  refine V.take 6 8 (.pointer (some ⟨bs, 0, none⟩)) [true, true, true, true, false, true, true, false, false, false, false, false, false, false, false, false, false, false, false, false, false, false, false, false, false, false] rfl rfl (by kernel_rfl) (by kernel_rfl) (by kernel_rfl) (by kernel_rfl) (fun _ _ _ h => h) (Or.inl ⟨by rfl, ?_⟩) hHeld ?_
  · intro wz hSw
    go_simp
  simp only [Act.put, List.setIfInBounds_toArray, List.set_cons_zero, List.set_cons_succ]
  refine V.take 7 9 (.pointer (some ⟨bs, 0, none⟩)) [true, true, true, true, false, true, true, true, false, false, false, false, false, false, false, false, false, false, false, false, false, false, false, false, false, false] rfl rfl (by kernel_rfl) (by kernel_rfl) (by kernel_rfl) (by kernel_rfl) (fun _ _ _ h => h) (Or.inl ⟨by rfl, ?_⟩) hHeld ?_
  · intro wz hSw
    go_simp
  simp only [Act.put, List.setIfInBounds_toArray, List.set_cons_zero, List.set_cons_succ]
  refine V.take 8 10 (.pointer (some ⟨bs, 0, none⟩)) [true, true, true, true, false, true, true, true, true, false, false, false, false, false, false, false, false, false, false, false, false, false, false, false, false, false] rfl rfl (by kernel_rfl) (by kernel_rfl) (by kernel_rfl) (by kernel_rfl) (fun _ _ _ h => h) (Or.inl ⟨by rfl, ?_⟩) hHeld ?_
  · intro wz hSw
    go_simp
  simp only [Act.put, List.setIfInBounds_toArray, List.set_cons_zero, List.set_cons_succ]
  refine V.take 9 11 (.slice xo T.length xc) [true, true, true, true, false, true, true, true, true, true, false, false, false, false, false, false, false, false, false, false, false, false, false, false, false, false] rfl rfl (by kernel_rfl) (by kernel_rfl) (by kernel_rfl) (by kernel_rfl) (fun _ _ _ h => h) (Or.inl ⟨by rfl, ?_⟩) hHeld ?_
  · intro wz hSw
    go_simp
  simp only [Act.put, List.setIfInBounds_toArray, List.set_cons_zero, List.set_cons_succ]
  refine V.take 10 12 (.pointer (some ⟨bs, 0, none⟩)) [true, true, true, true, false, true, true, true, true, true, true, false, false, false, false, false, false, false, false, false, false, false, false, false, false, false] rfl rfl (by kernel_rfl) (by kernel_rfl) (by kernel_rfl) (by kernel_rfl) (fun _ _ _ h => h) (Or.inl ⟨by rfl, ?_⟩) hHeld ?_
  · intro wz hSw
    go_simp
  simp only [Act.put, List.setIfInBounds_toArray, List.set_cons_zero, List.set_cons_succ]
  refine V.take 11 13 (.pointer (some ⟨bs, 0, none⟩)) [true, true, true, true, false, true, true, true, true, true, true, true, false, false, false, false, false, false, false, false, false, false, false, false, false, false] rfl rfl (by kernel_rfl) (by kernel_rfl) (by kernel_rfl) (by kernel_rfl) (fun _ _ _ h => h) (Or.inl ⟨by rfl, ?_⟩) hHeld ?_
  · intro wz hSw
    go_simp
  simp only [Act.put, List.setIfInBounds_toArray, List.set_cons_zero, List.set_cons_succ]
  refine V.take 12 14 (.pointer (some ⟨bs, 7, none⟩)) [true, true, true, true, false, true, true, true, true, true, true, true, true, false, false, false, false, false, false, false, false, false, false, false, false, false] rfl rfl (by kernel_rfl) (by kernel_rfl) (by kernel_rfl) (by kernel_rfl) (fun _ _ _ h => h) (Or.inl ⟨by rfl, ?_⟩) hHeld ?_
  · intro wz hSw
    go_simp
  simp only [Act.put, List.setIfInBounds_toArray, List.set_cons_zero, List.set_cons_succ]
  refine V.take 13 15 (.int .i64 (up : Int)) [true, true, true, true, false, true, true, true, true, true, true, true, true, true, false, false, false, false, false, false, false, false, false, false, false, false] rfl rfl (by kernel_rfl) (by kernel_rfl) (by kernel_rfl) (by kernel_rfl) (fun _ _ _ h => h) (Or.inl ⟨by rfl, ?_⟩) hHeld ?_
  · intro wz hSw
    go_simp
  simp only [Act.put, List.setIfInBounds_toArray, List.set_cons_zero, List.set_cons_succ]
  refine V.take 14 16 (.pointer (some ⟨bs, 0, none⟩)) [true, true, true, true, false, true, true, true, true, true, true, true, true, true, true, false, false, false, false, false, false, false, false, false, false, false] rfl rfl (by kernel_rfl) (by kernel_rfl) (by kernel_rfl) (by kernel_rfl) (fun _ _ _ h => h) (Or.inl ⟨by rfl, ?_⟩) hHeld ?_
  · intro wz hSw
    go_simp
  simp only [Act.put, List.setIfInBounds_toArray, List.set_cons_zero, List.set_cons_succ]
  refine V.take 15 17 (.pointer (some ⟨bs, 0, none⟩)) [true, true, true, true, false, true, true, true, true, true, true, true, true, true, true, true, false, false, false, false, false, false, false, false, false, false] rfl rfl (by kernel_rfl) (by kernel_rfl) (by kernel_rfl) (by kernel_rfl) (fun _ _ _ h => h) (Or.inl ⟨by rfl, ?_⟩) hHeld ?_
  · intro wz hSw
    go_simp
  simp only [Act.put, List.setIfInBounds_toArray, List.set_cons_zero, List.set_cons_succ]
  refine V.take 16 18 (.pointer (some ⟨bs, 0, none⟩)) [true, true, true, true, false, true, true, true, true, true, true, true, true, true, true, true, true, false, false, false, false, false, false, false, false, false] rfl rfl (by kernel_rfl) (by kernel_rfl) (by kernel_rfl) (by kernel_rfl) (fun _ _ _ h => h) (Or.inl ⟨by rfl, ?_⟩) hHeld ?_
  · intro wz hSw
    go_simp
  simp only [Act.put, List.setIfInBounds_toArray, List.set_cons_zero, List.set_cons_succ]
  refine V.take 17 19 (.pointer (some ⟨bs, 1, none⟩)) [true, true, true, true, false, true, true, true, true, true, true, true, true, true, true, true, true, true, false, false, false, false, false, false, false, false] rfl rfl (by kernel_rfl) (by kernel_rfl) (by kernel_rfl) (by kernel_rfl) (fun _ _ _ h => h) (Or.inl ⟨by rfl, ?_⟩) hHeld ?_
  · intro wz hSw
    go_simp
  simp only [Act.put, List.setIfInBounds_toArray, List.set_cons_zero, List.set_cons_succ]
  refine V.take 18 20 (.int .i64 (k : Int)) [true, true, true, true, false, true, true, true, true, true, true, true, true, true, true, true, true, true, true, false, false, false, false, false, false, false] rfl rfl (by kernel_rfl) (by kernel_rfl) (by kernel_rfl) (by kernel_rfl) (fun _ _ _ h => h) (Or.inl ⟨by rfl, ?_⟩) hHeld ?_
  · intro wz hSw
    go_simp
  simp only [Act.put, List.setIfInBounds_toArray, List.set_cons_zero, List.set_cons_succ]
  refine V.take 19 21 (.slice xp m mc) [true, true, true, true, false, true, true, true, true, true, true, true, true, true, true, true, true, true, true, true, false, false, false, false, false, false] rfl rfl (by kernel_rfl) (by kernel_rfl) (by kernel_rfl) (by kernel_rfl) (fun _ _ _ h => h) (Or.inl ⟨by rfl, ?_⟩) hHeld ?_
  · intro wz hSw
    go_simp
  simp only [Act.put, List.setIfInBounds_toArray, List.set_cons_zero, List.set_cons_succ]
  refine wpAnyH_ready (rs := [4, 20]) (by kernel_rfl) (by simp) ?_
  refine AllReadyH.cons (o := _) rfl (fun KK hK => ?_) (AllReadyH.cons (o := _) rfl (fun KK hK => ?_) AllReadyH.nil)
  ·
    go_simp
    refine hK.out _ _ hHeld (fun hHeld => ?_)
    clear hK
    refine wpAnyH_ready (rs := [20]) (by kernel_rfl) (by simp) ?_
    refine AllReadyH.cons (o := _) rfl (fun KK hK => ?_) AllReadyH.nil
    go_simp
    refine HC.out.mono ?_
    rintro e w1 ⟨vo, vn, vc, v2, w2, rfl, hb1, hrun, ⟨o2, c2, rfl⟩, hb2, hfin⟩
    have HFin : Hid (_ ∧ _) := hfin
    clear hfin HC
    have y0 := K.at_box (i := 0) hb1 rfl
    have y1 := K.at_box (i := 1) hb1 rfl
    have y6 := K.at_box (i := 6) hb1 rfl
    have y7 := K.at_box (i := 7) hb1 rfl
    have z0 := K.at_box (i := 0) hb2 rfl
    have z1 := K.at_box (i := 1) hb2 rfl
    have z6 := K.at_box (i := 6) hb2 rfl
    have z7 := K.at_box (i := 7) hb2 rfl
    have f6 : w2.frozen? ⟨bs, 6, none⟩ = false := frozen_of_row w2 bs 6 _ _ hb2
    have f7 : (w2.setCell ⟨bs, 6, none⟩ (.slice o2 (ts.length + 1) c2)).frozen? ⟨bs, 7, none⟩ = false := frozen_of_row _ bs 7 _ _ (heap_setCell_same w2 bs 6 _ _ _ hb2)
    have hb3 := heap_setCell_same w2 bs 6 _ _ (.slice o2 (ts.length + 1) c2) hb2
    clear x0 x1 x7
    refine hK.out _ _ ⟨y0, y1, y7⟩ (fun hHeld => ?_)
    clear hK
    refine wpAnyH_ready (rs := [21]) (by kernel_rfl) (by simp) ?_
    refine AllReadyH.cons (o := _) rfl (fun KK hK => ?_) AllReadyH.nil
    go_simp
    refine hK.out _ _ ⟨K.alloc_cell y0 _, K.alloc_cell y1 _, K.alloc_cell y7 _⟩ (fun hHeld => ?_)
    clear hK
    refine wpAnyH_ready (rs := [22]) (by kernel_rfl) (by simp) ?_
    refine AllReadyH.cons (o := _) rfl (fun KK hK => ?_) AllReadyH.nil
    refine K.step_run rfl (.tmp 6) (.tmp 23) rfl (.slice to_ ts.length tc_) (.slice (some ⟨w1.heap.size, 0, none⟩) 1 1) (.slice o2 (ts.length + 1) c2) w2 rfl rfl hrun ?_
    refine hK.out _ _ ⟨z0, z1, z7⟩ (fun hHeld => ?_)
    clear hK
    try simp only [Act.put, List.setIfInBounds_toArray, List.set_cons_zero, List.set_cons_succ]
    refine V.take 23 25 (.pointer (some ⟨bs, 0, none⟩)) [true, true, true, true, true, true, true, true, true, true, true, true, true, true, true, true, true, true, true, true, true, true, true, true, false, false] rfl rfl (by kernel_rfl) (by kernel_rfl) (by kernel_rfl) (by kernel_rfl) (fun _ _ _ h => h) (Or.inl ⟨by rfl, ?_⟩) hHeld ?_
    · intro wz hSw
      go_simp
    simp only [Act.put, List.setIfInBounds_toArray, List.set_cons_zero, List.set_cons_succ]
    refine V.take 24 26 (.pointer (some ⟨bs, 6, none⟩)) [true, true, true, true, true, true, true, true, true, true, true, true, true, true, true, true, true, true, true, true, true, true, true, true, true, false] rfl rfl (by kernel_rfl) (by kernel_rfl) (by kernel_rfl) (by kernel_rfl) (fun _ _ _ h => h) (Or.inl ⟨by rfl, ?_⟩) hHeld ?_
    · intro wz hSw
      go_simp
    simp only [Act.put, List.setIfInBounds_toArray, List.set_cons_zero, List.set_cons_succ]
    refine wpAnyH_ready (rs := [25]) (by kernel_rfl) (by simp) ?_
    refine AllReadyH.cons (o := _) rfl (fun KK hK => ?_) AllReadyH.nil
    go_simp
    refine hK.out _ _ ⟨K.at_box (i := 0) hb3 rfl, K.at_box (i := 1) hb3 rfl, K.at_box (i := 7) hb3 rfl⟩ (fun hHeld => ?_)
    clear hK
    refine wpAnyH_done (by kernel_rfl) ?_ _
    go_wp2
    refine bodyPost_end (results_none rfl _ _ _) rfl ?_
    exact ⟨rfl, _, HFin.out⟩
  ·
    go_simp
    refine HC.out.mono ?_
    rintro e w1 ⟨vo, vn, vc, v2, w2, rfl, hb1, hrun, ⟨o2, c2, rfl⟩, hb2, hfin⟩
    have HFin : Hid (_ ∧ _) := hfin
    clear hfin HC
    have y0 := K.at_box (i := 0) hb1 rfl
    have y1 := K.at_box (i := 1) hb1 rfl
    have y6 := K.at_box (i := 6) hb1 rfl
    have y7 := K.at_box (i := 7) hb1 rfl
    have z0 := K.at_box (i := 0) hb2 rfl
    have z1 := K.at_box (i := 1) hb2 rfl
    have z6 := K.at_box (i := 6) hb2 rfl
    have z7 := K.at_box (i := 7) hb2 rfl
    have f6 : w2.frozen? ⟨bs, 6, none⟩ = false := frozen_of_row w2 bs 6 _ _ hb2
    have f7 : (w2.setCell ⟨bs, 6, none⟩ (.slice o2 (ts.length + 1) c2)).frozen? ⟨bs, 7, none⟩ = false := frozen_of_row _ bs 7 _ _ (heap_setCell_same w2 bs 6 _ _ _ hb2)
    have hb3 := heap_setCell_same w2 bs 6 _ _ (.slice o2 (ts.length + 1) c2) hb2
    clear x0 x1 x7
    refine hK.out _ _ ⟨y0, y1, y7⟩ (fun hHeld => ?_)
    clear hK
    refine wpAnyH_ready (rs := [4, 21]) (by kernel_rfl) (by simp) ?_
    refine AllReadyH.cons (o := _) rfl (fun KK hK => ?_) (AllReadyH.cons (o := _) rfl (fun KK hK => ?_) AllReadyH.nil)
    ·
      go_simp
      refine hK.out _ _ hHeld (fun hHeld => ?_)
      clear hK
      refine wpAnyH_ready (rs := [21]) (by kernel_rfl) (by simp) ?_
      refine AllReadyH.cons (o := _) rfl (fun KK hK => ?_) AllReadyH.nil
      go_simp
      refine hK.out _ _ ⟨K.alloc_cell y0 _, K.alloc_cell y1 _, K.alloc_cell y7 _⟩ (fun hHeld => ?_)
      clear hK
      refine wpAnyH_ready (rs := [22]) (by kernel_rfl) (by simp) ?_
      refine AllReadyH.cons (o := _) rfl (fun KK hK => ?_) AllReadyH.nil
      refine K.step_run rfl (.tmp 6) (.tmp 23) rfl (.slice to_ ts.length tc_) (.slice (some ⟨w1.heap.size, 0, none⟩) 1 1) (.slice o2 (ts.length + 1) c2) w2 rfl rfl hrun ?_
      refine hK.out _ _ ⟨z0, z1, z7⟩ (fun hHeld => ?_)
      clear hK
      try simp only [Act.put, List.setIfInBounds_toArray, List.set_cons_zero, List.set_cons_succ]
      refine V.take 23 25 (.pointer (some ⟨bs, 0, none⟩)) [true, true, true, true, true, true, true, true, true, true, true, true, true, true, true, true, true, true, true, true, true, true, true, true, false, false] rfl rfl (by kernel_rfl) (by kernel_rfl) (by kernel_rfl) (by kernel_rfl) (fun _ _ _ h => h) (Or.inl ⟨by rfl, ?_⟩) hHeld ?_
      · intro wz hSw
        go_simp
      simp only [Act.put, List.setIfInBounds_toArray, List.set_cons_zero, List.set_cons_succ]
      refine V.take 24 26 (.pointer (some ⟨bs, 6, none⟩)) [true, true, true, true, true, true, true, true, true, true, true, true, true, true, true, true, true, true, true, true, true, true, true, true, true, false] rfl rfl (by kernel_rfl) (by kernel_rfl) (by kernel_rfl) (by kernel_rfl) (fun _ _ _ h => h) (Or.inl ⟨by rfl, ?_⟩) hHeld ?_
      · intro wz hSw
        go_simp
      simp only [Act.put, List.setIfInBounds_toArray, List.set_cons_zero, List.set_cons_succ]
      refine wpAnyH_ready (rs := [25]) (by kernel_rfl) (by simp) ?_
      refine AllReadyH.cons (o := _) rfl (fun KK hK => ?_) AllReadyH.nil
      go_simp
      refine hK.out _ _ ⟨K.at_box (i := 0) hb3 rfl, K.at_box (i := 1) hb3 rfl, K.at_box (i := 7) hb3 rfl⟩ (fun hHeld => ?_)
      clear hK
      refine wpAnyH_done (by kernel_rfl) ?_ _
      go_wp2
      refine bodyPost_end (results_none rfl _ _ _) rfl ?_
      exact ⟨rfl, _, HFin.out⟩
    ·
      go_simp
      refine hK.out _ _ ⟨K.alloc_cell y0 _, K.alloc_cell y1 _, K.alloc_cell y7 _⟩ (fun hHeld => ?_)
      clear hK
      have y6a : ∀ o, (w1.alloc o).cell? ⟨bs, 6, none⟩ = some (.slice to_ ts.length tc_) := fun o => K.alloc_cell y6 o
      refine wpAnyH_ready (rs := [4]) (by kernel_rfl) (by simp) ?_
      refine AllReadyH.cons (o := _) rfl (fun KK hK => ?_) AllReadyH.nil
      go_simp
      refine hK.out _ _ hHeld (fun hHeld => ?_)
      clear hK
      refine wpAnyH_ready (rs := [22]) (by kernel_rfl) (by simp) ?_
      refine AllReadyH.cons (o := _) rfl (fun KK hK => ?_) AllReadyH.nil
      refine K.step_run rfl (.tmp 6) (.tmp 23) rfl (.slice to_ ts.length tc_) (.slice (some ⟨w1.heap.size, 0, none⟩) 1 1) (.slice o2 (ts.length + 1) c2) w2 rfl rfl hrun ?_
      refine hK.out _ _ ⟨z0, z1, z7⟩ (fun hHeld => ?_)
      clear hK
      try simp only [Act.put, List.setIfInBounds_toArray, List.set_cons_zero, List.set_cons_succ]
      refine V.take 23 25 (.pointer (some ⟨bs, 0, none⟩)) [true, true, true, true, true, true, true, true, true, true, true, true, true, true, true, true, true, true, true, true, true, true, true, true, false, false] rfl rfl (by kernel_rfl) (by kernel_rfl) (by kernel_rfl) (by kernel_rfl) (fun _ _ _ h => h) (Or.inl ⟨by rfl, ?_⟩) hHeld ?_
      · intro wz hSw
        go_simp
      simp only [Act.put, List.setIfInBounds_toArray, List.set_cons_zero, List.set_cons_succ]
      refine V.take 24 26 (.pointer (some ⟨bs, 6, none⟩)) [true, true, true, true, true, true, true, true, true, true, true, true, true, true, true, true, true, true, true, true, true, true, true, true, true, false] rfl rfl (by kernel_rfl) (by kernel_rfl) (by kernel_rfl) (by kernel_rfl) (fun _ _ _ h => h) (Or.inl ⟨by rfl, ?_⟩) hHeld ?_
      · intro wz hSw
        go_simp
      simp only [Act.put, List.setIfInBounds_toArray, List.set_cons_zero, List.set_cons_succ]
      refine wpAnyH_ready (rs := [25]) (by kernel_rfl) (by simp) ?_
      refine AllReadyH.cons (o := _) rfl (fun KK hK => ?_) AllReadyH.nil
      go_simp
      refine hK.out _ _ ⟨K.at_box (i := 0) hb3 rfl, K.at_box (i := 1) hb3 rfl, K.at_box (i := 7) hb3 rfl⟩ (fun hHeld => ?_)
      clear hK
      refine wpAnyH_done (by kernel_rfl) ?_ _
      go_wp2
      refine bodyPost_end (results_none rfl _ _ _) rfl ?_
      exact ⟨rfl, _, HFin.out⟩

end Go.Proofs.Ytackaadejnbfmaa

/-
  A piece comes: (*stream.flow).take; the end: (*stream.flow).finish.
-/
namespace Go.Proofs.Ytackaadejnbfmaa
open Go.RowKit Go.Lib
set_option maxRecDepth 20000
set_option linter.unusedSimpArgs false
set_option linter.unusedVariables false

namespace Ws
theorem Fl.below {F bs : Nat} {w w' : World} {vl : Value} {ah : Nat} {tv vt : Value} {T : List Int} {k came steps up : Nat} {ts : List (List Int)} (h : Fl F bs w vl ah tv vt T k came steps up ts) (hb : Below w.heap.size w w') : Fl F bs w' vl ah tv vt T k came steps up ts :=
  ⟨h.hF, K.blk_below h.box hb, kept1 h.text fun g hg => hb.block g (h.text.lt g hg).2, Fl.keepsTold h.box h.text h.told (fun j hj _ _ => hb.block j hj) (.inl rfl)⟩
theorem Fl.slice {F bs : Nat} {w : World} {vl : Value} {ah : Nat} {tv vt : Value} {T : List Int} {k came steps up : Nat} {ts : List (List Int)} (h : Fl F bs w vl ah tv vt T k came steps up ts) : ∃ xo xc, tv = .slice xo T.length xc := by
  rcases h.text.2 with ⟨hv, h0⟩ | ⟨g, cap, cur, hv, _⟩
  · exact ⟨none, 0, by rw [hv, h0]⟩
  · exact ⟨_, cap, hv⟩
/-- how many steps were taken, as the box says -/
def stepsOf (w : World) (bs : Nat) : Nat := match w.cell? ⟨bs, 5, none⟩ with
  | some v => (RowKit.intOf v).toNat
  | none => 0
theorem Fl.stepsOf {F bs : Nat} {w : World} {vl : Value} {ah : Nat} {tv vt : Value} {T : List Int} {k came steps up : Nat} {ts : List (List Int)} (h : Fl F bs w vl ah tv vt T k came steps up ts) : Ws.stepsOf w bs = steps := by
  have : w.cell? ⟨bs, 5, none⟩ = some (.int .i64 steps) := K.at_box (i := 5) h.box rfl
  unfold Ws.stepsOf
  rw [this]
  simp [RowKit.intOf]
/-- a piece behind the text -/
theorem take_in {F bs : Nat} {w : World} {vl : Value} {ah : Nat} {tv vt : Value} {T : List Int} {k came steps up : Nat} {ts : List (List Int)} (h : Fl F bs w vl ah tv vt T k came steps up ts) (vx : Value) (c : List Int) (hx : ∀ W, Below F w W → L.Rd W vx .i32 c) (hl : T.length + c.length ≤ 4000) :
    ∃ v' w2, (∀ ty, (Builtin.append_ #[23, 23] ty #[tv, vx]).run Try.prog (w.setCell ⟨bs, 4, none⟩ (.int .i64 ((came : Int) + (c.length : Int)))) = .ok v' w2) ∧ (∃ xo xc, v' = .slice xo (T ++ c).length xc) ∧ w2.cell? ⟨bs, 0, none⟩ = some tv ∧ w2.frozen? ⟨bs, 0, none⟩ = false ∧ Fl F bs (w2.setCell ⟨bs, 0, none⟩ v') vl ah v' vt (T ++ c) k (came + c.length) steps up ts ∧ Below F w (w2.setCell ⟨bs, 0, none⟩ v') := by
  have hlt : bs < w.heap.size := lt_of_block h.box
  have hF := h.hF
  obtain ⟨W, hW⟩ : ∃ W, W = w.setCell ⟨bs, 4, none⟩ (.int .i64 ((came : Int) + (c.length : Int))) := ⟨_, rfl⟩
  have hsz : W.heap.size = w.heap.size := by rw [hW]; simp
  have hoth : ∀ j, j ≠ bs → W.heap[j]? = w.heap[j]? := fun j hj => by rw [hW]; exact heap_setCell_other w ⟨bs, 4, none⟩ j _ (by simpa using hj)
  have hbox : W.heap[bs]? = some (.cells #[tv, .int .i64 k, vl, .int .i64 ah, .int .i64 ((came : Int) + (c.length : Int)), .int .i64 steps, vt, .int .i64 up] 75) := by rw [hW]; exact heap_setCell_same w bs 4 _ _ _ h.box
  have htext : W.ownsRow F 21 1 tv T.length (K.ints T) := kept1 h.text fun g hg => hoth g (box_ne h.text h.box (by decide) g hg)
  have htold : Told F W tv vt ts := Fl.keepsTold h.box h.text h.told (fun j _ hb _ => hoth j hb) (.inl rfl)
  have hBW : Below F w W := by rw [hW]; exact (Below.refl _ w).setCell (p := ⟨bs, 4, none⟩) hF _
  rw [← hW]
  obtain ⟨v', w2, hrun, own, gr, hn⟩ := K.app_rd W F tv T htext vx c (hx W hBW) (by omega) (by omega)
  have hbox2 : w2.heap[bs]? = some (.cells #[tv, .int .i64 k, vl, .int .i64 ah, .int .i64 ((came : Int) + (c.length : Int)), .int .i64 steps, vt, .int .i64 up] 75) := by
    rw [gr.block bs (by omega) (fun e => box_ne htext hbox (by decide) bs e.symm rfl)]; exact hbox
  have htold2 : Told F w2 v' vt ts := Fl.keepsTold hbox htext htold (fun j hj _ ht => gr.block j hj (fun e => ht e.symm)) hn
  have hbox3 : (w2.setCell ⟨bs, 0, none⟩ v').heap[bs]? = some (.cells #[v', .int .i64 k, vl, .int .i64 ah, .int .i64 ((came : Int) + (c.length : Int)), .int .i64 steps, vt, .int .i64 up] 75) := heap_setCell_same w2 bs 0 _ _ _ hbox2
  have hoth3 : ∀ j, j ≠ bs → (w2.setCell ⟨bs, 0, none⟩ v').heap[j]? = w2.heap[j]? := fun j hj => heap_setCell_other w2 ⟨bs, 0, none⟩ j _ (by simpa using hj)
  refine ⟨v', w2, hrun, ?_, K.at_box (i := 0) hbox2 rfl, frozen_of_row w2 bs 0 _ _ hbox2, ⟨hF, hbox3, kept1 own fun g hg => hoth3 g (box_ne own hbox2 (by decide) g hg), Fl.keepsTold hbox2 own htold2 (fun j _ hb _ => hoth3 j hb) (.inl rfl)⟩, (hBW.grown gr (by omega) fun g hg => (htext.lt g hg).1).setCell (p := ⟨bs, 0, none⟩) hF _⟩
  rcases own.2 with ⟨hv, h0⟩ | ⟨g, cap, cur, hv, _⟩
  · exact ⟨none, 0, by rw [hv, h0]⟩
  · exact ⟨_, cap, hv⟩
end Ws

/-- what a piece leaves -/
def Ws.Took (l : List K.Rule) (F bs : Nat) (w' : World) (vl : Value) (ah : Nat) (s : Ws.St) (x : Int) : Prop :=
  x = 0 → ∃ tv vt, Ws.Fl F bs w' vl ah tv vt (s.A ++ s.Z) s.A.length s.came s.steps s.A.length s.told

set_option maxHeartbeats 16000000 in
theorem wtake_any (w0 : World) (vl : Value) (l : List K.Rule) (R0 : V.Rus w0 vl l) (hl : l.length ≤ 200) (hE : ∀ r ∈ l, K.ruleE r = 0) (w : World) (hX : Below w0.heap.size w0 w) (bs : Nat) (ah : Nat) (hah : ah ≤ 1000000) (tv vt : Value) (s : Ws.St) (ok : s.Ok) (hf : Ws.Fl w0.heap.size bs w vl ah tv vt (s.A ++ s.Z) s.A.length s.came s.steps s.A.length s.told) (hts : s.told.length ≤ 1000) (vx : Value) (c : List Int) (Rx : L.Rd w0 vx .i32 c) (hc : c.length ≤ 140737488355328) :
    Calls Try.prog 35 #[.pointer (some ⟨bs, 0, none⟩), vx] w fun e w' => e = .returned (.int .i64 (Ws.take l ah s c).1) ∧ Below w0.heap.size w w' ∧ Ws.Took l w0.heap.size bs w' vl ah (Ws.take l ah s c).2 (Ws.take l ah s c).1 := by
  obtain ⟨xo, xc, rfl, _⟩ := id Rx
  obtain ⟨yo, yc, rfl⟩ := hf.slice
  obtain ⟨A, Z, came, steps, ts⟩ := s
  have h1 := ok.few
  have h2 := ok.came
  have h3 := ok.steps
  simp only at h1 h2 h3 hf hts
  have x0 : w.cell? ⟨bs, 0, none⟩ = some (.slice yo (A ++ Z).length yc) := K.at_box (i := 0) hf.box rfl
  have x4 : w.cell? ⟨bs, 4, none⟩ = some (.int .i64 came) := K.at_box (i := 4) hf.box rfl
  have hlen : (A ++ Z).length = A.length + Z.length := List.length_append
  obtain ⟨N, hN⟩ : ∃ N, N = (A ++ Z).length := ⟨_, rfl⟩
  rw [← hN] at x0
  have hN4 : N ≤ 4000 := by omega
  have hN1 : N ≤ A.length + Z.length := by omega
  have hN2 : A.length + Z.length ≤ N := by omega
  have HN0 : Hid (N = (A ++ Z).length) := hN
  have HRx : Hid (∀ W, Below w0.heap.size w W → L.Rd W (.slice xo c.length xc) .i32 c) := fun W hW => Rx.below (hX.trans hW) (Nat.le_refl _)
  have HTx : Hid (∀ W, Below w0.heap.size w W → Calls Try.prog 54 #[.slice xo c.length xc] W fun e w' => e = .returned (.int .i64 (K.textE c)) ∧ Below W.heap.size W w') := fun W hW => mText_any W _ c (HRx.out W hW) hc
  have HF : Hid (Ws.Fl w0.heap.size bs w vl ah (.slice yo (A ++ Z).length yc) vt (A ++ Z) A.length came steps A.length ts) := hf
  have HX : Hid (Below w0.heap.size w0 w) := hX
  have HR : Hid (V.Rus w0 vl l ∧ ∀ r ∈ l, K.ruleE r = 0) := ⟨R0, hE⟩
  clear hf hX R0 hE Rx ok hN hlen
  go_enter Try.func35, Try.ntmps35
  go_wp2
  go_quiet (fail)
  have hs0 : w0.heap.size ≤ w.heap.size := HX.out.size
  have hBX : Below w.heap.size w (w.drewN nq) := below_drewN (Below.refl _ w) nq
  have HFX : Hid (Ws.Fl w0.heap.size bs (w.drewN nq) vl ah (.slice yo (A ++ Z).length yc) vt (A ++ Z) A.length came steps A.length ts) := HF.out.below hBX
  have HBX : Hid (Below w0.heap.size w (w.drewN nq)) := hBX.mono hs0
  clear hBX x0 x4 HF
  generalize w.drewN nq = X at *
  by_cases hm : 4000 < came + c.length ∨ 4000 < N + c.length
  · have hmx : (4000 : Int) < max (came : Int) (N : Int) + (c.length : Int) := by omega
    go_wp2
    go_ret
    unfold Ws.take
    rw [if_pos (by simp only; omega)]
    exact ⟨rfl, HBX.out, fun h => by simp at h⟩
  · have hmx : ¬ (4000 : Int) < max (came : Int) (N : Int) + (c.length : Int) := by omega
    have hTk : Ws.take l ah ⟨A, Z, came, steps, ts⟩ c = if K.textE c ≠ 0 then (K.textE c, ⟨A, Z, came, steps, ts⟩) else ((Ws.go l false ah (8 * (came + c.length) + 40 - steps) A (Z ++ c)).1, ⟨(Ws.go l false ah (8 * (came + c.length) + 40 - steps) A (Z ++ c)).2.2.1, (Ws.go l false ah (8 * (came + c.length) + 40 - steps) A (Z ++ c)).2.2.2, came + c.length, 8 * (came + c.length) + 40 - (Ws.go l false ah (8 * (came + c.length) + 40 - steps) A (Z ++ c)).2.1, ts ++ [(Ws.go l false ah (8 * (came + c.length) + 40 - steps) A (Z ++ c)).2.2.1.drop A.length]⟩) := by
      unfold Ws.take
      rw [if_neg (by simp only; omega)]
      rfl
    have HTk : Hid (_ = _) := hTk
    clear hTk
    obtain ⟨n, hn⟩ : ∃ n, n = c.length := ⟨_, rfl⟩
    have HN : Hid (n = c.length ∧ N = (A ++ Z).length) := ⟨hn, HN0.out⟩
    rw [← hn] at hmx hm hc
    have hTX := HTx.out X HBX.out
    rw [← hn] at hTX
    obtain ⟨e3, he3⟩ : ∃ e3, K.textE c = e3 := ⟨_, rfl⟩
    rw [he3] at hTX
    rw [he3] at HTk
    rw [← hn]
    rw [← hn] at HTk HRx
    clear HTx he3 hn
    go_wp2_with fail
    refine hTX.mono ?_
    rintro e w1 ⟨rfl, b1⟩
    have hBw1 : Below w0.heap.size w w1 := HBX.out.trans (b1.mono (by have := HBX.out.size; omega))
    have HB1 : Hid (Below w0.heap.size w w1) := hBw1
    have hf1 := HFX.out.below b1
    rw [← HN.out.2] at hf1
    have HF1 : Hid (Ws.Fl w0.heap.size bs w1 vl ah (.slice yo N yc) vt (A ++ Z) A.length came steps A.length ts) := hf1
    clear b1 hBw1 hTX HFX HBX hf1
    by_cases q : e3 = 0
    · subst q
      have hts2 := HTk.out
      rw [if_neg (by simp)] at hts2
      have HTk2 : Hid (_ = _) := hts2
      clear hts2 HTk
      have x0 : w1.cell? ⟨bs, 0, none⟩ = some (.slice yo N yc) := K.at_box (i := 0) HF1.out.box rfl
      have x4 : w1.cell? ⟨bs, 4, none⟩ = some (.int .i64 came) := K.at_box (i := 4) HF1.out.box rfl
      have f4 : w1.frozen? ⟨bs, 4, none⟩ = false := frozen_of_row w1 bs 4 _ _ HF1.out.box
      obtain ⟨v', w2, hrun, ⟨zo, zc, rfl⟩, y0, f0, hf2, hb2⟩ := Ws.take_in HF1.out (.slice xo n xc) c (fun W hW => HRx.out W (HB1.out.trans hW)) (by have := HN.out.2; have := HN.out.1; omega)
      rw [← HN.out.1] at hrun hf2
      obtain ⟨M, hM⟩ : ∃ M, M = (A ++ Z ++ c).length := ⟨_, rfl⟩
      rw [← hM] at hrun hf2 hb2
      rw [List.append_assoc] at hf2
      have HF2 : Hid (Ws.Fl w0.heap.size bs (w2.setCell ⟨bs, 0, none⟩ (.slice zo M zc)) vl ah (.slice zo M zc) vt (A ++ (Z ++ c)) A.length (came + n) steps A.length ts ∧ Below w0.heap.size w (w2.setCell ⟨bs, 0, none⟩ (.slice zo M zc))) := ⟨hf2, HB1.out.trans hb2⟩
      have hM4 : A.length + (Z ++ c).length ≤ 4000 := by
        have := HN.out
        rw [List.length_append]
        rw [List.length_append] at this
        omega
      obtain ⟨⟨o1, oL, oA, oZ⟩, hgo⟩ : ∃ o, Ws.go l false ah (8 * (came + n) + 40 - steps) A (Z ++ c) = o := ⟨_, rfl⟩
      have hts2 := HTk2.out
      rw [hgo] at hts2
      simp only at hts2
      have HTk3 : Hid (Ws.take l ah ⟨A, Z, came, steps, ts⟩ c = (o1, ⟨oA, oZ, came + n, 8 * (came + n) + 40 - oL, ts ++ [oA.drop A.length]⟩)) := hts2
      have HGo : Hid (Ws.go l false ah (8 * (came + n) + 40 - steps) A (Z ++ c) = (o1, oL, oA, oZ)) := hgo
      have hcn : came + n ≤ 4000 := by omega
      clear hts2 HTk2 hgo
      clear hf2 hb2 hM
      go_wp2_with (at_builtin; first | refine Lib.wpList_append_run _ rfl _ _ _ _ rfl _ _ rfl rfl _ _ (hrun _) ?_ | fail)
      have hs4 : Ws.stepsOf (w2.setCell ⟨bs, 0, none⟩ (.slice zo M zc)) bs = steps := HF2.out.1.stepsOf
      clear x0 x4 f4 y0 f0 hrun HF1 HB1 HRx HN HN0 hN1 hN2 hm hmx
      generalize w2.setCell ⟨bs, 0, none⟩ (.slice zo M zc) = W2 at *
      go_loopw [] (fun wr => ∃ (A' Z' : List Int) (tv' : Value) (st left : Nat), Hid (Ws.Fl w0.heap.size bs wr vl ah tv' vt (A' ++ Z') A'.length (came + n) st A.length ts ∧ Below w0.heap.size w wr) ∧ Hid (Ws.go l false ah left A' Z' = (o1, oL, oA, oZ)) ∧ A'.length + Z'.length ≤ 4000 ∧ A.length ≤ A'.length ∧ st + left = 8 * (came + n) + 40) (fun wr => 8 * (came + n) + 40 - Ws.stepsOf wr bs)
      case atStart => exact ⟨A, Z ++ c, _, steps, _, HF2, HGo, hM4, Nat.le_refl _, by omega⟩
      case round =>
        obtain ⟨A', Z', tv', st, left, HFr, HGr, h4r, hAr, hsl⟩ := hrel
        obtain ⟨ro, rc, rfl⟩ := HFr.out.1.slice
        obtain ⟨NN, hNN⟩ : ∃ NN, NN = (A' ++ Z').length := ⟨_, rfl⟩
        have hlen : (A' ++ Z').length = A'.length + Z'.length := List.length_append
        have x0 : wr.cell? ⟨bs, 0, none⟩ = some (.slice ro NN rc) := by rw [hNN]; exact K.at_box (i := 0) HFr.out.1.box rfl
        have x1 : wr.cell? ⟨bs, 1, none⟩ = some (.int .i64 A'.length) := K.at_box (i := 1) HFr.out.1.box rfl
        have x3 : wr.cell? ⟨bs, 3, none⟩ = some (.int .i64 ah) := K.at_box (i := 3) HFr.out.1.box rfl
        have HSp : Hid (∀ q, Calls Try.prog 36 #[.pointer (some ⟨bs, 0, none⟩)] (wr.drewN q) fun e w' => e = .returned (.bool (decide (8 * ((came + n : Nat) : Int) + 40 ≤ (st : Int)))) ∧ ∃ q', w' = (wr.drewN q).drewN q') := fun q => wspent_any (wr.drewN q) bs _ _ _ _ _ _ _ _ HFr.out.1.box hcn
        have HFq : Hid (∀ q, Ws.Fl w0.heap.size bs (wr.drewN q) vl ah (.slice ro (A' ++ Z').length rc) vt (A' ++ Z') A'.length (came + n) st A.length ts ∧ Below w0.heap.size w (wr.drewN q)) := fun q => ⟨HFr.out.1.below (below_drewN (Below.refl _ wr) q), below_drewN HFr.out.2 q⟩
        have hn1 : NN ≤ A'.length + Z'.length := by omega
        have hn2 : A'.length + Z'.length ≤ NN := by omega
        have HTl : Hid (∀ q, Calls Try.prog 38 #[.pointer (some ⟨bs, 0, none⟩)] (wr.drewN q) fun e w' => e = .returned (.tuple #[]) ∧ Below w0.heap.size w w' ∧ ∃ tv vt', Ws.Fl w0.heap.size bs w' vl ah tv vt' (A' ++ Z') A'.length (came + n) st A'.length (ts ++ [A'.drop A.length])) := fun q => by
          refine (wtell_any w0.heap.size bs (wr.drewN q) vl ah _ vt (A' ++ Z') A'.length (came + n) st A.length ts (HFq.out q).1 (by omega) hAr (by omega) hts).mono ?_
          rintro e w' ⟨rfl, vt', g1, g2⟩
          rw [List.take_left] at g1
          exact ⟨rfl, (HFq.out q).2.trans g2, _, vt', g1⟩
        clear hNN hlen HF2 HGo hs4
        by_cases hstop : Z'.length ≤ ah
        · have hgo := HGr.out
          rw [Ws.go_stop (.inr ⟨rfl, hstop⟩)] at hgo
          simp only [Prod.mk.injEq] at hgo
          obtain ⟨rfl, rfl, rfl, rfl⟩ := hgo
          have hlt : ¬ (A'.length : Int) + (ah : Int) < (NN : Int) := by omega
          have hltd : decide ((A'.length : Int) + (ah : Int) < (NN : Int)) = false := decide_eq_false hlt
          clear HGr HFr HSp HFq
          go_wp2_with fail
          go_big_quiet (fail)
          go_wp2_with fail
          go_at_call 38
          refine (HTl.out nq).mono ?_
          rintro e w9 ⟨rfl, g1, g2⟩
          have HG : Hid (Below w0.heap.size w w9 ∧ ∃ tv vt', Ws.Fl w0.heap.size bs w9 vl ah tv vt' (A' ++ Z') A'.length (came + n) st A'.length (ts ++ [A'.drop A.length])) := ⟨g1, g2⟩
          clear g1 g2 HTl
          go_wp2
          go_ret
          rw [HTk3.out]
          refine ⟨rfl, HG.out.1, fun _ => ?_⟩
          simp only
          rw [show 8 * (came + n) + 40 - left = st by omega]
          exact HG.out.2
        · have hlt : (A'.length : Int) + (ah : Int) < (NN : Int) := by omega
          have hltd : decide ((A'.length : Int) + (ah : Int) < (NN : Int)) = true := decide_eq_true hlt
          have hns : ¬ (Z'.length = 0 ∨ (false = false ∧ Z'.length ≤ ah)) := fun h => by rcases h with h | ⟨_, h⟩ <;> omega
          cases left with
          | zero =>
            have hgo := HGr.out
            rw [Ws.go_spent] at hgo
            simp only [Prod.mk.injEq] at hgo
            obtain ⟨rfl, rfl, rfl, rfl⟩ := hgo
            have HSp2 : Hid (∀ q, Calls Try.prog 36 #[.pointer (some ⟨bs, 0, none⟩)] (wr.drewN q) fun e w' => e = .returned (.bool true) ∧ ∃ q', w' = (wr.drewN q).drewN q') := fun q => by
              have h := HSp.out q
              rw [decide_eq_true (by omega)] at h
              exact h
            clear HGr HFr HSp HFq
            go_wp2_with fail
            go_big_quiet (first | (go_at_call 36; exact Calls.quiet_of (HSp2.out _)))
            go_wp2_with fail
            go_at_call 38
            refine (HTl.out nq).mono ?_
            rintro e w9 ⟨rfl, g1, g2⟩
            have HG : Hid (Below w0.heap.size w w9 ∧ ∃ tv vt', Ws.Fl w0.heap.size bs w9 vl ah tv vt' (A' ++ Z') A'.length (came + n) st A'.length (ts ++ [A'.drop A.length])) := ⟨g1, g2⟩
            clear g1 g2 HTl
            go_wp2
            go_ret
            rw [HTk3.out]
            refine ⟨rfl, HG.out.1, fun _ => ?_⟩
            simp only
            rw [show 8 * (came + n) + 40 - 0 = st by omega]
            exact HG.out.2
          | succ left =>
            have HSp2 : Hid (∀ q, Calls Try.prog 36 #[.pointer (some ⟨bs, 0, none⟩)] (wr.drewN q) fun e w' => e = .returned (.bool false) ∧ ∃ q', w' = (wr.drewN q).drewN q') := fun q => by
              have h := HSp.out q
              rw [decide_eq_false (by omega)] at h
              exact h
            have HSt : Hid (∀ q, Calls Try.prog 37 #[.pointer (some ⟨bs, 0, none⟩)] (wr.drewN q) fun e w' => ∃ x : Int, e = .returned (.int .i64 x) ∧ Below w0.heap.size w w' ∧ ((x = 4 ∧ o1 = 4) ∨ (x = 0 ∧ Ws.stepsOf w' bs = st + 1 ∧ ∃ A2 Z2 tv2, Ws.Fl w0.heap.size bs w' vl ah tv2 vt (A2 ++ Z2) A2.length (came + n) (st + 1) A.length ts ∧ A'.length ≤ A2.length ∧ A2.length + Z2.length ≤ 4000 ∧ Ws.go l false ah left A2 Z2 = (o1, oL, oA, oZ)))) := fun q => by
              refine (wflowStep_any w0 vl l HR.out.1 hl HR.out.2 (wr.drewN q) (HX.out.trans (HFq.out q).2) bs ah _ vt A' Z' (came + n) st A.length ts (HFq.out q).1 h4r (by omega) (by omega)).mono ?_
              rintro e w' ⟨x, rfl, hb, ⟨rfl, h4⟩ | ⟨rfl, A2, Z2, tv2, h5, h6, h7, h8⟩⟩
              · have hgo := HGr.out
                rw [h4 false left hns] at hgo
                simp only [Prod.mk.injEq] at hgo
                exact ⟨4, rfl, (HFq.out q).2.trans hb, .inl ⟨rfl, hgo.1.symm⟩⟩
              · exact ⟨0, rfl, (HFq.out q).2.trans hb, .inr ⟨rfl, h5.stepsOf, A2, Z2, tv2, h5, h6, h7, by rw [← h8 false left hns]; exact HGr.out⟩⟩
            have hsr : Ws.stepsOf wr bs = st := HFr.out.1.stepsOf
            clear HGr HFr HSp HFq HTl
            go_wp2_with fail
            go_big_quiet (first | (go_at_call 36; exact Calls.quiet_of (HSp2.out _)))
            go_wp2_with fail
            go_at_call 37
            refine (HSt.out nq).mono ?_
            rintro e w9 ⟨x, rfl, hb9, ⟨rfl, rfl⟩ | ⟨rfl, hs9, A2, Z2, tv2, g1, g2, g3, g4⟩⟩
            · have HB9 : Hid (Below w0.heap.size w w9) := hb9
              clear hb9 HSt
              go_wp2
              go_ret
              rw [HTk3.out]
              exact ⟨rfl, HB9.out, fun h => by simp at h⟩
            · have HG : Hid (Ws.Fl w0.heap.size bs w9 vl ah tv2 vt (A2 ++ Z2) A2.length (came + n) (st + 1) A.length ts ∧ Below w0.heap.size w w9) := ⟨g1, hb9⟩
              have HG2 : Hid (Ws.go l false ah left A2 Z2 = (o1, oL, oA, oZ)) := g4
              have HS9 : Hid (Ws.stepsOf w9 bs = st + 1 ∧ Ws.stepsOf wr bs = st) := ⟨hs9, hsr⟩
              clear hb9 g1 g4 HSt hs9 hsr
              go_wp2
              go_roundw
              case rel => exact ⟨A2, Z2, tv2, st + 1, left, HG, HG2, g3, by omega, by omega⟩
              case measure =>
                have := HS9.out
                rw [this.1, this.2]
                omega
    · have hts2 := HTk.out
      rw [if_pos q] at hts2
      have HTk2 : Hid (_ = _) := hts2
      clear HTk HF1 hts2
      go_wp2
      go_ret
      rw [HTk2.out]
      exact ⟨rfl, HB1.out, fun h => absurd h q⟩

set_option maxHeartbeats 16000000 in
theorem wfinish_any (w0 : World) (vl : Value) (l : List K.Rule) (R0 : V.Rus w0 vl l) (hl : l.length ≤ 200) (hE : ∀ r ∈ l, K.ruleE r = 0) (w : World) (hX : Below w0.heap.size w0 w) (bs : Nat) (ah : Nat) (tv vt : Value) (s : Ws.St) (ok : s.Ok) (hf : Ws.Fl w0.heap.size bs w vl ah tv vt (s.A ++ s.Z) s.A.length s.came s.steps s.A.length s.told) (hts : s.told.length ≤ 1000) :
    Calls Try.prog 23 #[.pointer (some ⟨bs, 0, none⟩)] w fun e w' => e = .returned (.int .i64 (Ws.finish l ah s).1) ∧ Below w0.heap.size w w' ∧ ((Ws.finish l ah s).1 = 0 → ∃ A Z tv vt st up, Ws.Fl w0.heap.size bs w' vl ah tv vt (A ++ Z) A.length s.came st up (Ws.finish l ah s).2) := by
  obtain ⟨A, Z, came, steps, ts⟩ := s
  have h1 := ok.few
  have h2 := ok.came
  have h3 := ok.steps
  simp only at h1 h2 h3 hf hts
  obtain ⟨⟨o1, oL, oA, oZ⟩, hgo⟩ : ∃ o, Ws.go l true ah (8 * came + 40 - steps) A Z = o := ⟨_, rfl⟩
  have HFi : Hid (Ws.finish l ah ⟨A, Z, came, steps, ts⟩ = (o1, ts ++ [oA.drop A.length])) := by
    show _ = _
    unfold Ws.finish
    simp only
    rw [hgo]
  have HGo : Hid (Ws.go l true ah (8 * came + 40 - steps) A Z = (o1, oL, oA, oZ)) := hgo
  have HF : Hid (Ws.Fl w0.heap.size bs w vl ah tv vt (A ++ Z) A.length came steps A.length ts ∧ Below w0.heap.size w w) := ⟨hf, Below.refl _ _⟩
  have HX : Hid (Below w0.heap.size w0 w) := hX
  have HR : Hid (V.Rus w0 vl l ∧ ∀ r ∈ l, K.ruleE r = 0) := ⟨R0, hE⟩
  clear hf hX R0 hE ok hgo
  go_enter Try.func23, Try.ntmps23
  go_wp2
  go_loopw [] (fun wr => ∃ (A' Z' : List Int) (tv' : Value) (st left : Nat), Hid (Ws.Fl w0.heap.size bs wr vl ah tv' vt (A' ++ Z') A'.length came st A.length ts ∧ Below w0.heap.size w wr) ∧ Hid (Ws.go l true ah left A' Z' = (o1, oL, oA, oZ)) ∧ A'.length + Z'.length ≤ 4000 ∧ A.length ≤ A'.length ∧ st + left = 8 * came + 40) (fun wr => 8 * came + 40 - Ws.stepsOf wr bs)
  case atStart => exact ⟨A, Z, _, steps, _, HF, HGo, h1, Nat.le_refl _, by omega⟩
  case round =>
    obtain ⟨A', Z', tv', st, left, HFr, HGr, h4r, hAr, hsl⟩ := hrel
    obtain ⟨ro, rc, rfl⟩ := HFr.out.1.slice
    obtain ⟨NN, hNN⟩ : ∃ NN, NN = (A' ++ Z').length := ⟨_, rfl⟩
    have hlen : (A' ++ Z').length = A'.length + Z'.length := List.length_append
    have x0 : wr.cell? ⟨bs, 0, none⟩ = some (.slice ro NN rc) := by rw [hNN]; exact K.at_box (i := 0) HFr.out.1.box rfl
    have x1 : wr.cell? ⟨bs, 1, none⟩ = some (.int .i64 A'.length) := K.at_box (i := 1) HFr.out.1.box rfl
    have HFq : Hid (∀ q, Ws.Fl w0.heap.size bs (wr.drewN q) vl ah (.slice ro (A' ++ Z').length rc) vt (A' ++ Z') A'.length came st A.length ts ∧ Below w0.heap.size w (wr.drewN q)) := fun q => ⟨HFr.out.1.below (below_drewN (Below.refl _ wr) q), below_drewN HFr.out.2 q⟩
    have hn1 : NN ≤ A'.length + Z'.length := by omega
    have hn2 : A'.length + Z'.length ≤ NN := by omega
    clear hNN hlen HF HGo
    by_cases hz : Z'.length = 0
    · have hgo := HGr.out
      rw [Ws.go_stop (.inl hz)] at hgo
      simp only [Prod.mk.injEq] at hgo
      obtain ⟨rfl, rfl, rfl, rfl⟩ := hgo
      have HTl : Hid (∀ q, Calls Try.prog 38 #[.pointer (some ⟨bs, 0, none⟩)] (wr.drewN q) fun e w' => e = .returned (.tuple #[]) ∧ Below w0.heap.size w w' ∧ ∃ tv vt', Ws.Fl w0.heap.size bs w' vl ah tv vt' (A' ++ Z') A'.length came st A'.length (ts ++ [A'.drop A.length])) := fun q => by
        refine (wtell_any w0.heap.size bs (wr.drewN q) vl ah _ vt (A' ++ Z') A'.length came st A.length ts (HFq.out q).1 (by rw [List.length_append]; omega) hAr (by rw [List.length_append]; omega) hts).mono ?_
        rintro e w' ⟨rfl, vt', g1, g2⟩
        rw [List.take_left] at g1
        exact ⟨rfl, (HFq.out q).2.trans g2, _, vt', g1⟩
      have hlt : ¬ (A'.length : Int) < (NN : Int) := by omega
      clear HGr HFr HFq
      go_wp2_with fail
      go_quiet (fail)
      go_wp2_with fail
      go_at_call 38
      refine (HTl.out nq).mono ?_
      rintro e w9 ⟨rfl, g1, tv9, vt9, g2⟩
      have HG : Hid (Below w0.heap.size w w9 ∧ Ws.Fl w0.heap.size bs w9 vl ah tv9 vt9 (A' ++ Z') A'.length came st A'.length (ts ++ [A'.drop A.length])) := ⟨g1, g2⟩
      clear g1 g2 HTl
      go_wp2
      go_ret
      rw [HFi.out]
      exact ⟨rfl, HG.out.1, fun _ => ⟨_, _, _, _, _, _, HG.out.2⟩⟩
    · have hlt : (A'.length : Int) < (NN : Int) := by omega
      have hns : ¬ (Z'.length = 0 ∨ (true = false ∧ Z'.length ≤ ah)) := fun h => by
        rcases h with h | ⟨h, _⟩
        · omega
        · cases h
      have HSp : Hid (∀ q, Calls Try.prog 36 #[.pointer (some ⟨bs, 0, none⟩)] (wr.drewN q) fun e w' => e = .returned (.bool (decide (8 * (came : Int) + 40 ≤ (st : Int)))) ∧ ∃ q', w' = (wr.drewN q).drewN q') := fun q => wspent_any (wr.drewN q) bs _ _ _ _ _ _ _ _ HFr.out.1.box h2
      cases left with
      | zero =>
        have hgo := HGr.out
        rw [Ws.go_out hz] at hgo
        simp only [Prod.mk.injEq] at hgo
        obtain ⟨rfl, rfl, rfl, rfl⟩ := hgo
        have HSp2 : Hid (∀ q, Calls Try.prog 36 #[.pointer (some ⟨bs, 0, none⟩)] (wr.drewN q) fun e w' => e = .returned (.bool true) ∧ ∃ q', w' = (wr.drewN q).drewN q') := fun q => by
          have h := HSp.out q
          rw [decide_eq_true (by omega)] at h
          exact h
        clear HGr HSp HFr
        go_wp2_with fail
        go_quiet (fail)
        go_wp2_with fail
        go_at_call 36
        refine (HSp2.out nq).mono ?_
        rintro e w9 ⟨rfl, q9, rfl⟩
        have HB9 : Hid (Below w0.heap.size w (wr.drewN (nq + q9))) := (HFq.out (nq + q9)).2
        clear HSp2 HFq
        go_wp2
        go_ret
        rw [HFi.out]
        exact ⟨rfl, HB9.out, fun h => by simp at h⟩
      | succ left =>
        have HSp2 : Hid (∀ q, Calls Try.prog 36 #[.pointer (some ⟨bs, 0, none⟩)] (wr.drewN q) fun e w' => e = .returned (.bool false) ∧ ∃ q', w' = (wr.drewN q).drewN q') := fun q => by
          have h := HSp.out q
          rw [decide_eq_false (by omega)] at h
          exact h
        have HSt : Hid (∀ q, Calls Try.prog 37 #[.pointer (some ⟨bs, 0, none⟩)] (wr.drewN q) fun e w' => ∃ x : Int, e = .returned (.int .i64 x) ∧ Below w0.heap.size w w' ∧ ((x = 4 ∧ o1 = 4) ∨ (x = 0 ∧ Ws.stepsOf w' bs = st + 1 ∧ ∃ A2 Z2 tv2, Ws.Fl w0.heap.size bs w' vl ah tv2 vt (A2 ++ Z2) A2.length came (st + 1) A.length ts ∧ A'.length ≤ A2.length ∧ A2.length + Z2.length ≤ 4000 ∧ Ws.go l true ah left A2 Z2 = (o1, oL, oA, oZ)))) := fun q => by
          have hfq := (HFq.out q).1
          have hbq := (HFq.out q).2
          refine (wflowStep_any w0 vl l HR.out.1 hl HR.out.2 (wr.drewN q) (HX.out.trans hbq) bs ah _ vt A' Z' came st A.length ts hfq h4r (by omega) (by omega)).mono ?_
          rintro e w' ⟨x, rfl, hb, ⟨rfl, h4⟩ | ⟨rfl, A2, Z2, tv2, h5, h6, h7, h8⟩⟩
          · have hgo := HGr.out
            rw [h4 true left hns] at hgo
            simp only [Prod.mk.injEq] at hgo
            exact ⟨4, rfl, hbq.trans hb, .inl ⟨rfl, hgo.1.symm⟩⟩
          · exact ⟨0, rfl, hbq.trans hb, .inr ⟨rfl, h5.stepsOf, A2, Z2, tv2, h5, h6, h7, by rw [← h8 true left hns]; exact HGr.out⟩⟩
        have hsr : Ws.stepsOf wr bs = st := HFr.out.1.stepsOf
        clear HGr HFr HSp HFq
        go_wp2_with fail
        go_quiet (fail)
        go_wp2_with fail
        go_at_call 36
        refine (HSp2.out nq).mono ?_
        rintro e w8 ⟨rfl, q9, rfl⟩
        go_wp2_with fail
        go_at_call 37
        refine (HSt.out (nq + q9)).mono ?_
        rintro e w9 ⟨x, rfl, hb9, ⟨rfl, rfl⟩ | ⟨rfl, hs9, A2, Z2, tv2, g1, g2, g3, g4⟩⟩
        · have HB9 : Hid (Below w0.heap.size w w9) := hb9
          clear hb9 HSt HSp2
          go_wp2
          go_ret
          rw [HFi.out]
          exact ⟨rfl, HB9.out, fun h => by simp at h⟩
        · have HG : Hid (Ws.Fl w0.heap.size bs w9 vl ah tv2 vt (A2 ++ Z2) A2.length came (st + 1) A.length ts ∧ Below w0.heap.size w w9) := ⟨g1, hb9⟩
          have HG2 : Hid (Ws.go l true ah left A2 Z2 = (o1, oL, oA, oZ)) := g4
          have HS9 : Hid (Ws.stepsOf w9 bs = st + 1 ∧ Ws.stepsOf wr bs = st) := ⟨hs9, hsr⟩
          clear hb9 g1 g4 HSt hs9 hsr HSp2
          go_wp2
          go_roundw
          case rel => exact ⟨A2, Z2, tv2, st + 1, left, HG, HG2, g3, by omega, by omega⟩
          case measure =>
            have := HS9.out
            rw [this.1, this.2]
            omega

end Go.Proofs.Ytackaadejnbfmaa
