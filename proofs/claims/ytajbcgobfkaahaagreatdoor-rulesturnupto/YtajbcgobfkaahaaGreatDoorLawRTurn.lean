/-
  scriptlaw5.RulesTurn answers true, for all parts and every text (of at most 2^38 bytes).
-/
import Derived.Test.YtajbcgobfkaahaaGreatDoorRBareP
import Derived.Test.YtajbcgobfkaahaaGreatDoorRPrint
import Derived.Test.YtajbcgobfkaahaaGreatDoorRBytes
import Derived.Test.YtajbcgobfkaahaaGreatDoorRJoin
import Derived.Test.YtajbcgobfkaahaaGreatDoorTClass4
namespace Go.Proofs.YtajbcgobfkaahaaGreatDoor
open Go.RowKit
set_option maxRecDepth 20000
set_option linter.unusedSimpArgs false
set_option linter.unusedVariables false

theorem R.wrong_ok {l : List R.Part} (hl : l.length ≤ 200) (h : ∀ p ∈ l, R.partE p = 0) : R.wrong l = (0, 0) := by
  unfold R.wrong
  rw [if_neg (by omega)]
  have key : ∀ (l : List R.Part) (i : Nat), (∀ p ∈ l, R.partE p = 0) → R.firstW i l = (0, 0) := by
    intro l
    induction l with
    | nil => intro i _; rfl
    | cons p l ih => intro i h; rw [R.firstW, if_pos (h p List.mem_cons_self)]; exact ih _ fun q hq => h q (List.mem_cons_of_mem _ hq)
  exact key l 0 h
theorem R.printV_ok {l : List R.Part} (h : R.wrong l = (0, 0)) : R.printV l = .tuple #[.string ⟨(R.printB l).toArray⟩, .agg #[.int .i64 0, .int .i64 0]] := by
  unfold R.printV; rw [h]; simp
theorem R.text_size {l : List R.Part} (hl : l.length ≤ 200) (h : ∀ p ∈ l, R.partE p = 0) : (⟨(R.printB l).toArray⟩ : ByteArray).size ≤ 1099511627776 := by
  have h1 := printB_len h
  have h2 : (⟨(R.printB l).toArray⟩ : ByteArray).size = (R.printB l).length := by simp [ByteArray.size]
  have h3 : 504902 * l.length ≤ 504902 * 200 := Nat.mul_le_mul_left _ hl
  omega
/-- what was written is read -/
theorem R.read_back {l : List R.Part} (hl : l.length ≤ 200) (h : ∀ p ∈ l, R.partE p = 0) (hs : (⟨(R.printB l).toArray⟩ : ByteArray).size ≤ 16000) : ∃ q, R.read (M.rn ⟨(R.printB l).toArray⟩) = .ok (l.map R.bareP) q := by
  rw [R.rn_print h]
  refine R.read_print h hl ?_
  have h1 := M.rn_length ⟨(R.printB l).toArray⟩
  rw [R.rn_print h] at h1
  omega
theorem R.bareI_twice (x : R.Item) : R.bareI (R.bareI x) = R.bareI x := by
  unfold R.bareI
  by_cases h1 : x.kind = 1
  · simp [h1, R.runeI]
  · by_cases h2 : x.kind = 2
    · simp [h2, R.setI]
    · by_cases h3 : x.kind = 3
      · simp [h3, R.varI]
      · simp [h1, h2, h3]
theorem R.bareS_twice (s : R.Side) : R.bareS (R.bareS s) = R.bareS s := by
  unfold R.bareS
  simp only [List.map_map, R.Side.mk.injEq, true_and, and_true]
  have : R.bareI ∘ R.bareI = R.bareI := funext R.bareI_twice
  rw [this]
  exact ⟨rfl, rfl, rfl⟩
theorem R.bareP_twice (p : R.Part) : R.bareP (R.bareP p) = R.bareP p := by
  unfold R.bareP
  by_cases h : p.kind = 2
  · simp [h, R.bareS_twice]
  · by_cases h1 : p.kind = 1
    · simp [h1]
    · by_cases h3 : p.kind = 3
      · simp [h3]
      · by_cases h4 : p.kind = 4
        · simp [h4]
        · simp [h, h1, h3, h4]

set_option maxHeartbeats 16000000 in
theorem rulesTurn_any (w : World) (v : Value) (l : List R.Part) (R0 : R.Pts w v l) (hT : T.Tz w) (s : ByteArray) (hs : s.size ≤ 274877906944) :
    Calls Tryz.prog 3 #[v, .string s] w fun e w' => e = .returned (.bool true) ∧ Below w.heap.size w w' := by
  have HL : Hid (∀ W, Calls Tryz.prog 6 #[] W fun e w' => e = .returned (.bool true) ∧ Below W.heap.size W w') := fun W => ralive_any class_ok W
  have HS : Hid (∀ W, Calls Tryz.prog 9 #[.string s] W (R.readE (R.read (M.rn s)) W)) := fun W => rread_any class_ok s (by omega) W
  have HRd : Hid (∀ (m : List R.Part), m.length ≤ 200 → (∀ p ∈ m, R.partE p = 0) → (⟨(R.printB m).toArray⟩ : ByteArray).size ≤ 16000 → ∀ W, Calls Tryz.prog 9 #[.string ⟨(R.printB m).toArray⟩] W fun e w' => ∃ v, e = .returned (.tuple #[v, .agg #[.int .i64 0, .int .i64 0]]) ∧ R.RowP W.heap.size w' v (m.map R.bareP) ∧ Below W.heap.size W w') := fun m h1 h2 h3 W => by
    obtain ⟨q, hq⟩ := R.read_back h1 h2 h3
    refine (rread_any class_ok _ (R.text_size h1 h2) W).mono fun e w' h => ?_
    rw [hq] at h
    obtain ⟨v, he, hr, _, hb⟩ := h
    exact ⟨v, he, hr, hb⟩
  have HSh : Hid (∀ (m : List R.Part), m.length ≤ 200 → (∀ p ∈ m, R.partE p = 0) → ∀ W, Calls Tryz.prog 8 #[.string ⟨(R.printB m).toArray⟩] W fun e w' => e = .returned (.bool (decide ((⟨(R.printB m).toArray⟩ : ByteArray).size ≤ 16000))) ∧ Below W.heap.size W w') := fun m h1 h2 W => short_any _ (R.text_size h1 h2) W
  have HPr : Hid (∀ (m : List R.Part) (u : Value) (W : World), Below w.heap.size w W → R.Pts W u m → Calls Tryz.prog 7 #[u] W fun e w' => e = .returned (R.printV m) ∧ Below W.heap.size W w') := fun m u W hW hp => Print_any W u m hp (hT.below hW hT.lt)
  have HWr : Hid (∀ (m : List R.Part) (u : Value) (W : World), R.Pts W u m → Calls Tryz.prog 12 #[u] W fun e w' => e = .returned (.agg #[.int .i64 (R.wrong m).1, .int .i64 (R.wrong m).2]) ∧ Below W.heap.size W w') := fun m u W hp => Wrong_any W u m hp
  have HBa : Hid ((∀ p ∈ l, R.partE p = 0) → l.length ≤ 200 → ∀ W, Below w.heap.size w W → Calls Tryz.prog 11 #[v] W fun e w' => ∃ v', e = .returned v' ∧ R.Pts w' v' (l.map R.bareP) ∧ Below W.heap.size W w') := fun h1 h2 W hW => Bare_any W v l (R0.below hW) h2 h1
  have HP0 : Hid (∀ W, Below w.heap.size w W → R.Pts W v l) := fun W hW => R0.below hW
  have HTz : Hid (T.Tz w) := hT
  have HZ : Hid ((R.wrong l).1 = 0 → l.length ≤ 200 ∧ (∀ p ∈ l, R.partE p = 0) ∧ R.wrong l = (0, 0)) := R.wrong_zero
  have HSm : Hid (∀ m : List R.Part, (∀ p ∈ m, R.partE p = 0) → ∀ p ∈ m.map R.bareP, R.Small p) := fun m h p hp => by
    obtain ⟨x, hx, rfl⟩ := List.mem_map.1 hp
    exact small_of (R.bareP_ok (h x hx)) (R.bareP_twice x)
  have hfield : ∀ W : World, (Instr.field 26 (.agg #[.int .i64 0, .int .i64 0]) 0).run Tryz.prog W = .ok (.int .i64 0) W := fun _ => by kernel_rfl
  obtain ⟨ao, cap, rfl⟩ := R0.len
  clear R0 hT
  go_enter Tryz.func3, Tryz.ntmps3
  go_wp2_with fail
  refine (HL.out _).mono ?_
  rintro e w1 ⟨rfl, b1⟩
  have HB1 : Hid (Below w.heap.size w w1) := b1
  have hs1 := b1.size
  clear b1
  have hpr := HPr.out l _ w1 HB1.out (HP0.out w1 HB1.out)
  have hpv : R.printV l = .tuple #[.string ⟨(if (R.wrong l).1 = 0 then R.printB l else []).toArray⟩, .agg #[.int .i64 (R.wrong l).1, .int .i64 (R.wrong l).2]] := rfl
  by_cases hz : (R.wrong l).1 = 0
  · obtain ⟨hl200, hok, hwl⟩ := HZ.out hz
    rw [R.printV_ok hwl] at hpr
    have HOkl : Hid (∀ p ∈ l, R.partE p = 0) := hok
    have HShl : Hid _ := HSh.out l hl200 hok
    have HRdl : Hid _ := HRd.out l hl200 hok
    have HBal : Hid _ := HBa.out hok hl200
    have HSml : Hid _ := HSm.out l hok
    have hlm : (l.map R.bareP).length = l.length := List.length_map ..
    clear hpv hz hwl hok HZ
    generalize (⟨(R.printB l).toArray⟩ : ByteArray) = tl at *
    go_wp2_with fail
    refine hpr.mono ?_
    rintro e w2 ⟨rfl, b2⟩
    have HB2 : Hid (Below w.heap.size w w2) := HB1.out.trans (b2.mono hs1)
    have hs2 := b2.size
    clear b2 hpr
    have HA2 : Hid (∀ o, Below w.heap.size w (w2.alloc o)) := fun o => HB2.out.alloc HB2.out.size o
    go_wp2_with fail
    refine (HShl.out _).mono ?_
    rintro e w3 ⟨rfl, b3⟩
    have HB3 : Hid (Below w.heap.size w w3) := (HA2.out _).trans (b3.mono (by simp; omega))
    clear b3
    by_cases h16 : tl.size ≤ 16000
    · rw [decide_eq_true h16]
      have hrd := HRdl.out h16 w3
      go_wp2_with fail
      refine hrd.mono ?_
      rintro e w4 ⟨v4, rfl, r4, b4⟩
      have HB4 : Hid (∀ o, Below w.heap.size w (w4.alloc o)) := fun o => (HB3.out.trans (b4.mono HB3.out.size)).alloc (by have := b4.size; have := HB3.out.size; omega) o
      have HR4 : Hid (R.RowP w3.heap.size w4 v4 (l.map R.bareP)) := r4
      obtain ⟨vo4, vc4, hv4⟩ := R.Row.slice r4
      rw [List.length_map] at hv4
      subst hv4
      clear b4 r4 hrd
      go_wp2_with fail
      refine (HBal.out _ (HB4.out _)).mono ?_
      rintro e w5 ⟨v5, rfl, p5, b5⟩
      obtain ⟨hb5, B5, hl5⟩ := R.box_kept b5
      have HB5 : Hid (Below w.heap.size w w5) := (HB4.out _).trans (b5.mono (by simp; have := (HB4.out (.cells #[] 0)).size; simp at this; omega))
      have HR5 : Hid (R.Pts w5 (.slice vo4 l.length vc4) (l.map R.bareP)) := (R.RowP.pts (R.Row.below HR4.out B5)).here
      have HP5 : Hid (R.Pts w5 v5 (l.map R.bareP)) := p5
      obtain ⟨vo5, vc5, hv5⟩ := p5.len
      rw [List.length_map] at hv5
      subst hv5
      obtain ⟨p0, p1, _, _⟩ := R.box2 hb5
      clear b5 hb5 B5
      have hSame := Same_eq w5 _ _ (l.map R.bareP) HR5.out HP5.out (by omega) HSml.out
      go_wp2_with fail
      refine hSame.mono ?_
      rintro e w6 ⟨rfl, b6⟩
      have HB6 : Hid (Below w.heap.size w w6) := HB5.out.trans (b6.mono HB5.out.size)
      clear b6 hSame p0 p1 HR5 HP5
      go_wp2_with fail
      refine (HS.out _).mono ?_
      cases hrs : R.read (M.rn s) with
      | bad er q =>
        have her := R.read_er hrs
        rintro e wa ⟨rfl, ba⟩
        have HBa2 : Hid (∀ o, Below w.heap.size w (wa.alloc o)) := fun o => (HB6.out.trans (ba.mono HB6.out.size)).alloc (by have := ba.size; have := HB6.out.size; omega) o
        clear ba
        go_wp2
        go_ret
        exact ⟨rfl, HBa2.out _⟩
      | ok m q =>
        rintro e wa ⟨vm, rfl, ra, hla, ba⟩
        have hsn := HB6.out.size
        have hsa := ba.size
        have HBa3 : Hid (∀ o, Below w.heap.size w (wa.alloc o)) := fun o => (HB6.out.trans (ba.mono hsn)).alloc (by omega) o
        have HM : Hid (R.RowP w.heap.size wa vm m) := R.Row.down ra hsn
        obtain ⟨mo, mc, hvm⟩ := R.Row.slice ra
        subst hvm
        have HOk : Hid (∀ p ∈ m, R.partE p = 0) := fun p hp => (R.read_right hrs p hp).1
        have HBare : Hid (m.map R.bareP = m) := (List.map_congr_left fun p hp => (R.read_right hrs p hp).2).trans (List.map_id' _)
        have hwm := R.wrong_ok hla HOk.out
        have hprm := fun o => HPr.out m (.slice mo m.length mc) (wa.alloc o) (HBa3.out o) ((R.RowP.pts (R.Row.below HM.out ((Below.refl _ wa).alloc (Nat.le_refl _) o))).here)
        rw [R.printV_ok hwm] at hprm
        have HPrm : Hid (∀ o, Calls Tryz.prog 7 #[.slice mo m.length mc] (wa.alloc o) fun e w' => e = .returned (.tuple #[.string ⟨(R.printB m).toArray⟩, .agg #[.int .i64 0, .int .i64 0]]) ∧ Below (wa.alloc o).heap.size (wa.alloc o) w') := hprm
        have HWm : Hid (∀ W, R.Pts W (.slice mo m.length mc) m → Calls Tryz.prog 12 #[.slice mo m.length mc] W fun e w' => e = .returned (.agg #[.int .i64 0, .int .i64 0]) ∧ Below W.heap.size W w') := fun W hp => by have h := HWr.out m _ W hp; rw [hwm] at h; exact h
        have HShm := HSh.out m hla HOk.out
        have HRdm := HRd.out m hla HOk.out
        rw [HBare.out] at HRdm
        have HSh2 : Hid _ := HShm
        have HRd2 : Hid _ := HRdm
        have HSm2 : Hid (∀ p ∈ m, R.Small p) := by have h := HSm.out m HOk.out; rw [HBare.out] at h; exact h
        clear ba ra hprm hwm hrs HShm HRdm
        generalize (⟨(R.printB m).toArray⟩ : ByteArray) = tm at *
        go_wp2_with fail
        refine (HPrm.out _).mono ?_
        rintro e wb ⟨rfl, bb⟩
        obtain ⟨hbb, Bb, hlb⟩ := R.box_kept bb
        have HBb : Hid (Below w.heap.size w wb) := (HBa3.out _).trans (bb.mono (by simp; omega))
        have HMb : Hid (R.RowP w.heap.size wb (.slice mo m.length mc) m) := R.Row.below HM.out Bb
        have HXb : Hid (wb.heap[wa.heap.size]? = some (.cells #[.int .i64 0, .int .i64 0] 26)) := hbb
        obtain ⟨p0, p1, p2, p3⟩ := R.box2 hbb
        obtain ⟨X2, hX2⟩ : ∃ X2, X2 = (wb.setCell ⟨wa.heap.size, 0, none⟩ (.int .i64 0)).setCell ⟨wa.heap.size, 1, none⟩ (.int .i64 0) := ⟨_, rfl⟩
        have hbx : X2.heap[wa.heap.size]? = some (.cells #[.int .i64 0, .int .i64 0] 26) := by rw [hX2]; exact heap_setCell_same _ _ 1 _ _ _ (heap_setCell_same _ _ 0 _ _ _ hbb)
        have hsx : X2.heap.size = wb.heap.size := by rw [hX2]; simp
        have HBx : Hid (Below w.heap.size w X2) := by rw [hX2]; exact (HBb.out.setCell (by show w.heap.size ≤ wa.heap.size; omega) _).setCell (by show w.heap.size ≤ wa.heap.size; omega) _
        have HMx : Hid (R.RowP w.heap.size X2 (.slice mo m.length mc) m) := R.Row.keep HM.out (by omega) (fun b _ hb => by rw [hX2, heap_setCell_other _ ⟨wa.heap.size, 1, none⟩ b _ (by show b ≠ wa.heap.size; omega), heap_setCell_other _ ⟨wa.heap.size, 0, none⟩ b _ (by show b ≠ wa.heap.size; omega)]; exact Bb.block b hb)
        have HXx : Hid (X2.heap[wa.heap.size]? = some (.cells #[.int .i64 0, .int .i64 0] 26)) := hbx
        have hKx : Hid (∀ b, b < wa.heap.size → X2.heap[b]? = wa.heap[b]?) := fun b hb => by rw [hX2, heap_setCell_other _ ⟨wa.heap.size, 1, none⟩ b _ (by show b ≠ wa.heap.size; omega), heap_setCell_other _ ⟨wa.heap.size, 0, none⟩ b _ (by show b ≠ wa.heap.size; omega)]; exact Bb.block b hb
        clear bb hbb Bb hbx HMb HXb
        go_wp2_with fail
        rw [← hX2]
        clear hX2
        refine (HWm.out _ (R.RowP.pts HMx.out).here).mono ?_
        rintro e wc ⟨rfl, bc⟩
        have HBc : Hid (Below w.heap.size w wc) := HBx.out.trans (bc.mono HBx.out.size)
        have HMc : Hid (R.RowP w.heap.size wc (.slice mo m.length mc) m) := R.Row.below HMx.out bc
        have hbc : wc.heap[wa.heap.size]? = some (.cells #[.int .i64 0, .int .i64 0] 26) := R.blk_below HXx.out bc
        have HXc : Hid (wc.heap[wa.heap.size]? = some (.cells #[.int .i64 0, .int .i64 0] 26)) := hbc
        have hsc := bc.size
        obtain ⟨p0, p1, p2, p3⟩ := R.box2 hbc
        have hKc : Hid (∀ b, b < wa.heap.size → wc.heap[b]? = wa.heap[b]?) := fun b hb => (bc.block b (by omega)).trans (hKx.out b hb)
        clear bc hbc
        go_wp2_with fail
        refine (HSh2.out _).mono ?_
        rintro e wd ⟨rfl, bd⟩
        have HBd : Hid (Below w.heap.size w wd) := HBc.out.trans (bd.mono HBc.out.size)
        have HMd : Hid (R.RowP w.heap.size wd (.slice mo m.length mc) m) := R.Row.below HMc.out bd
        have HXd : Hid (wd.heap[wa.heap.size]? = some (.cells #[.int .i64 0, .int .i64 0] 26)) := R.blk_below HXc.out bd
        have hsd := bd.size
        have hKd : Hid (∀ b, b < wa.heap.size → wd.heap[b]? = wa.heap[b]?) := fun b hb => (bd.block b (by omega)).trans (hKc.out b hb)
        clear bd p0 p1 p2 p3
        by_cases h16 : tm.size ≤ 16000
        · rw [decide_eq_true h16]
          have hrd := HRd2.out h16 wd
          go_wp2_with fail
          refine hrd.mono ?_
          rintro e we ⟨ve, rfl, re, be⟩
          have HBe : Hid (Below w.heap.size w we) := HBd.out.trans (be.mono HBd.out.size)
          have hbe : we.heap[wa.heap.size]? = some (.cells #[.int .i64 0, .int .i64 0] 26) := R.blk_below HXd.out be
          have hse := be.size
          have HMe : Hid (R.RowP w.heap.size we (.slice mo m.length mc) m) := R.Row.below HMd.out be
          have hKeep : Hid (∀ b, b < wa.heap.size → we.heap[b]? = wa.heap[b]?) := fun b hb => (be.block b (by omega)).trans (hKd.out b hb)
          obtain ⟨eo, ec, hve⟩ := R.Row.slice re
          subst hve
          obtain ⟨p0, p1, p2, p3⟩ := R.box2 hbe
          obtain ⟨X3, hX3⟩ : ∃ X3, X3 = (we.setCell ⟨wa.heap.size, 0, none⟩ (.int .i64 0)).setCell ⟨wa.heap.size, 1, none⟩ (.int .i64 0) := ⟨_, rfl⟩
          have hbx3 : X3.heap[wa.heap.size]? = some (.cells #[.int .i64 0, .int .i64 0] 26) := by rw [hX3]; exact heap_setCell_same _ _ 1 _ _ _ (heap_setCell_same _ _ 0 _ _ _ hbe)
          have hg3 : we.grownBy X3 (some wa.heap.size) := by rw [hX3]; exact S.grown_trans (R.grown_set _ _ _ _) (R.grown_set _ _ _ _)
          have HB3 : Hid (Below w.heap.size w X3) := HBe.out.grown hg3 HBe.out.size (fun g hg => by have h2 : wa.heap.size = g := Option.some.inj hg; omega)
          have HM3 : Hid (R.Pts X3 (.slice mo m.length mc) m) := (R.RowP.pts (R.Row.keep HM.out (by have := hg3.size; omega) (fun b _ hb => (hg3.block b (by omega) (by intro h; have h2 : b = wa.heap.size := Option.some.inj h; omega)).trans (hKeep.out b hb)))).here
          have HN3 : Hid (R.Pts X3 (.slice eo m.length ec) m) := (R.RowP.pts (R.Row.cur re hg3 (by omega))).here
          obtain ⟨q0, q1, q2, q3⟩ := R.box2 hbx3
          clear be hbe re hg3 hbx3 HMe
          have hSame := Same_eq X3 _ _ m HM3.out HN3.out (by omega) HSm2.out
          go_wp2_with fail
          rw [← hX3]
          clear hX3
          refine hSame.mono ?_
          rintro e wf ⟨rfl, bf⟩
          have HBf : Hid (Below w.heap.size w wf) := HB3.out.trans (bf.mono HB3.out.size)
          clear bf hSame
          go_wp2
          go_ret
          exact ⟨rfl, HBf.out⟩
        · rw [decide_eq_false h16]
          go_wp2
          go_ret
          exact ⟨rfl, HBd.out⟩
    · rw [decide_eq_false h16]
      go_wp2_with fail
      refine (HS.out _).mono ?_
      cases hrs : R.read (M.rn s) with
      | bad er q =>
        have her := R.read_er hrs
        rintro e wa ⟨rfl, ba⟩
        have HBa2 : Hid (∀ o, Below w.heap.size w (wa.alloc o)) := fun o => (HB3.out.trans (ba.mono HB3.out.size)).alloc (by have := ba.size; have := HB3.out.size; omega) o
        clear ba
        go_wp2
        go_ret
        exact ⟨rfl, HBa2.out _⟩
      | ok m q =>
        rintro e wa ⟨vm, rfl, ra, hla, ba⟩
        have hsn := HB3.out.size
        have hsa := ba.size
        have HBa3 : Hid (∀ o, Below w.heap.size w (wa.alloc o)) := fun o => (HB3.out.trans (ba.mono hsn)).alloc (by omega) o
        have HM : Hid (R.RowP w.heap.size wa vm m) := R.Row.down ra hsn
        obtain ⟨mo, mc, hvm⟩ := R.Row.slice ra
        subst hvm
        have HOk : Hid (∀ p ∈ m, R.partE p = 0) := fun p hp => (R.read_right hrs p hp).1
        have HBare : Hid (m.map R.bareP = m) := (List.map_congr_left fun p hp => (R.read_right hrs p hp).2).trans (List.map_id' _)
        have hwm := R.wrong_ok hla HOk.out
        have hprm := fun o => HPr.out m (.slice mo m.length mc) (wa.alloc o) (HBa3.out o) ((R.RowP.pts (R.Row.below HM.out ((Below.refl _ wa).alloc (Nat.le_refl _) o))).here)
        rw [R.printV_ok hwm] at hprm
        have HPrm : Hid (∀ o, Calls Tryz.prog 7 #[.slice mo m.length mc] (wa.alloc o) fun e w' => e = .returned (.tuple #[.string ⟨(R.printB m).toArray⟩, .agg #[.int .i64 0, .int .i64 0]]) ∧ Below (wa.alloc o).heap.size (wa.alloc o) w') := hprm
        have HWm : Hid (∀ W, R.Pts W (.slice mo m.length mc) m → Calls Tryz.prog 12 #[.slice mo m.length mc] W fun e w' => e = .returned (.agg #[.int .i64 0, .int .i64 0]) ∧ Below W.heap.size W w') := fun W hp => by have h := HWr.out m _ W hp; rw [hwm] at h; exact h
        have HShm := HSh.out m hla HOk.out
        have HRdm := HRd.out m hla HOk.out
        rw [HBare.out] at HRdm
        have HSh2 : Hid _ := HShm
        have HRd2 : Hid _ := HRdm
        have HSm2 : Hid (∀ p ∈ m, R.Small p) := by have h := HSm.out m HOk.out; rw [HBare.out] at h; exact h
        clear ba ra hprm hwm hrs HShm HRdm
        generalize (⟨(R.printB m).toArray⟩ : ByteArray) = tm at *
        go_wp2_with fail
        refine (HPrm.out _).mono ?_
        rintro e wb ⟨rfl, bb⟩
        obtain ⟨hbb, Bb, hlb⟩ := R.box_kept bb
        have HBb : Hid (Below w.heap.size w wb) := (HBa3.out _).trans (bb.mono (by simp; omega))
        have HMb : Hid (R.RowP w.heap.size wb (.slice mo m.length mc) m) := R.Row.below HM.out Bb
        have HXb : Hid (wb.heap[wa.heap.size]? = some (.cells #[.int .i64 0, .int .i64 0] 26)) := hbb
        obtain ⟨p0, p1, p2, p3⟩ := R.box2 hbb
        obtain ⟨X2, hX2⟩ : ∃ X2, X2 = (wb.setCell ⟨wa.heap.size, 0, none⟩ (.int .i64 0)).setCell ⟨wa.heap.size, 1, none⟩ (.int .i64 0) := ⟨_, rfl⟩
        have hbx : X2.heap[wa.heap.size]? = some (.cells #[.int .i64 0, .int .i64 0] 26) := by rw [hX2]; exact heap_setCell_same _ _ 1 _ _ _ (heap_setCell_same _ _ 0 _ _ _ hbb)
        have hsx : X2.heap.size = wb.heap.size := by rw [hX2]; simp
        have HBx : Hid (Below w.heap.size w X2) := by rw [hX2]; exact (HBb.out.setCell (by show w.heap.size ≤ wa.heap.size; omega) _).setCell (by show w.heap.size ≤ wa.heap.size; omega) _
        have HMx : Hid (R.RowP w.heap.size X2 (.slice mo m.length mc) m) := R.Row.keep HM.out (by omega) (fun b _ hb => by rw [hX2, heap_setCell_other _ ⟨wa.heap.size, 1, none⟩ b _ (by show b ≠ wa.heap.size; omega), heap_setCell_other _ ⟨wa.heap.size, 0, none⟩ b _ (by show b ≠ wa.heap.size; omega)]; exact Bb.block b hb)
        have HXx : Hid (X2.heap[wa.heap.size]? = some (.cells #[.int .i64 0, .int .i64 0] 26)) := hbx
        have hKx : Hid (∀ b, b < wa.heap.size → X2.heap[b]? = wa.heap[b]?) := fun b hb => by rw [hX2, heap_setCell_other _ ⟨wa.heap.size, 1, none⟩ b _ (by show b ≠ wa.heap.size; omega), heap_setCell_other _ ⟨wa.heap.size, 0, none⟩ b _ (by show b ≠ wa.heap.size; omega)]; exact Bb.block b hb
        clear bb hbb Bb hbx HMb HXb
        go_wp2_with fail
        rw [← hX2]
        clear hX2
        refine (HWm.out _ (R.RowP.pts HMx.out).here).mono ?_
        rintro e wc ⟨rfl, bc⟩
        have HBc : Hid (Below w.heap.size w wc) := HBx.out.trans (bc.mono HBx.out.size)
        have HMc : Hid (R.RowP w.heap.size wc (.slice mo m.length mc) m) := R.Row.below HMx.out bc
        have hbc : wc.heap[wa.heap.size]? = some (.cells #[.int .i64 0, .int .i64 0] 26) := R.blk_below HXx.out bc
        have HXc : Hid (wc.heap[wa.heap.size]? = some (.cells #[.int .i64 0, .int .i64 0] 26)) := hbc
        have hsc := bc.size
        obtain ⟨p0, p1, p2, p3⟩ := R.box2 hbc
        have hKc : Hid (∀ b, b < wa.heap.size → wc.heap[b]? = wa.heap[b]?) := fun b hb => (bc.block b (by omega)).trans (hKx.out b hb)
        clear bc hbc
        go_wp2_with fail
        refine (HSh2.out _).mono ?_
        rintro e wd ⟨rfl, bd⟩
        have HBd : Hid (Below w.heap.size w wd) := HBc.out.trans (bd.mono HBc.out.size)
        have HMd : Hid (R.RowP w.heap.size wd (.slice mo m.length mc) m) := R.Row.below HMc.out bd
        have HXd : Hid (wd.heap[wa.heap.size]? = some (.cells #[.int .i64 0, .int .i64 0] 26)) := R.blk_below HXc.out bd
        have hsd := bd.size
        have hKd : Hid (∀ b, b < wa.heap.size → wd.heap[b]? = wa.heap[b]?) := fun b hb => (bd.block b (by omega)).trans (hKc.out b hb)
        clear bd p0 p1 p2 p3
        by_cases h16 : tm.size ≤ 16000
        · rw [decide_eq_true h16]
          have hrd := HRd2.out h16 wd
          go_wp2_with fail
          refine hrd.mono ?_
          rintro e we ⟨ve, rfl, re, be⟩
          have HBe : Hid (Below w.heap.size w we) := HBd.out.trans (be.mono HBd.out.size)
          have hbe : we.heap[wa.heap.size]? = some (.cells #[.int .i64 0, .int .i64 0] 26) := R.blk_below HXd.out be
          have hse := be.size
          have HMe : Hid (R.RowP w.heap.size we (.slice mo m.length mc) m) := R.Row.below HMd.out be
          have hKeep : Hid (∀ b, b < wa.heap.size → we.heap[b]? = wa.heap[b]?) := fun b hb => (be.block b (by omega)).trans (hKd.out b hb)
          obtain ⟨eo, ec, hve⟩ := R.Row.slice re
          subst hve
          obtain ⟨p0, p1, p2, p3⟩ := R.box2 hbe
          obtain ⟨X3, hX3⟩ : ∃ X3, X3 = (we.setCell ⟨wa.heap.size, 0, none⟩ (.int .i64 0)).setCell ⟨wa.heap.size, 1, none⟩ (.int .i64 0) := ⟨_, rfl⟩
          have hbx3 : X3.heap[wa.heap.size]? = some (.cells #[.int .i64 0, .int .i64 0] 26) := by rw [hX3]; exact heap_setCell_same _ _ 1 _ _ _ (heap_setCell_same _ _ 0 _ _ _ hbe)
          have hg3 : we.grownBy X3 (some wa.heap.size) := by rw [hX3]; exact S.grown_trans (R.grown_set _ _ _ _) (R.grown_set _ _ _ _)
          have HB3 : Hid (Below w.heap.size w X3) := HBe.out.grown hg3 HBe.out.size (fun g hg => by have h2 : wa.heap.size = g := Option.some.inj hg; omega)
          have HM3 : Hid (R.Pts X3 (.slice mo m.length mc) m) := (R.RowP.pts (R.Row.keep HM.out (by have := hg3.size; omega) (fun b _ hb => (hg3.block b (by omega) (by intro h; have h2 : b = wa.heap.size := Option.some.inj h; omega)).trans (hKeep.out b hb)))).here
          have HN3 : Hid (R.Pts X3 (.slice eo m.length ec) m) := (R.RowP.pts (R.Row.cur re hg3 (by omega))).here
          obtain ⟨q0, q1, q2, q3⟩ := R.box2 hbx3
          clear be hbe re hg3 hbx3 HMe
          have hSame := Same_eq X3 _ _ m HM3.out HN3.out (by omega) HSm2.out
          go_wp2_with fail
          rw [← hX3]
          clear hX3
          refine hSame.mono ?_
          rintro e wf ⟨rfl, bf⟩
          have HBf : Hid (Below w.heap.size w wf) := HB3.out.trans (bf.mono HB3.out.size)
          clear bf hSame
          go_wp2
          go_ret
          exact ⟨rfl, HBf.out⟩
        · rw [decide_eq_false h16]
          go_wp2
          go_ret
          exact ⟨rfl, HBd.out⟩
  · rw [hpv] at hpr
    clear hpv HZ
    generalize (⟨(if (R.wrong l).1 = 0 then R.printB l else []).toArray⟩ : ByteArray) = tl at *
    generalize (R.wrong l).1 = z1 at *
    generalize (R.wrong l).2 = z2 at *
    go_wp2_with fail
    refine hpr.mono ?_
    rintro e w2 ⟨rfl, b2⟩
    have HB2 : Hid (Below w.heap.size w (w2.alloc (.cells #[.int .i64 z1, .int .i64 z2] 26))) := (HB1.out.trans (b2.mono hs1)).alloc (by have := b2.size; omega) _
    clear b2 hpr
    obtain ⟨w3, hw3⟩ : ∃ w3, w3 = w2.alloc (.cells #[.int .i64 z1, .int .i64 z2] 26) := ⟨_, rfl⟩
    have HB3 : Hid (Below w.heap.size w w3) := by rw [hw3]; exact HB2.out
    clear HB2
    go_wp2_with fail
    rw [← hw3]
    clear hw3
    refine (HS.out _).mono ?_
    cases hrs : R.read (M.rn s) with
    | bad er q =>
      have her := R.read_er hrs
      rintro e wa ⟨rfl, ba⟩
      have HBa2 : Hid (∀ o, Below w.heap.size w (wa.alloc o)) := fun o => (HB3.out.trans (ba.mono HB3.out.size)).alloc (by have := ba.size; have := HB3.out.size; omega) o
      clear ba
      go_wp2
      go_ret
      exact ⟨rfl, HBa2.out _⟩
    | ok m q =>
      rintro e wa ⟨vm, rfl, ra, hla, ba⟩
      have hsn := HB3.out.size
      have hsa := ba.size
      have HBa3 : Hid (∀ o, Below w.heap.size w (wa.alloc o)) := fun o => (HB3.out.trans (ba.mono hsn)).alloc (by omega) o
      have HM : Hid (R.RowP w.heap.size wa vm m) := R.Row.down ra hsn
      obtain ⟨mo, mc, hvm⟩ := R.Row.slice ra
      subst hvm
      have HOk : Hid (∀ p ∈ m, R.partE p = 0) := fun p hp => (R.read_right hrs p hp).1
      have HBare : Hid (m.map R.bareP = m) := (List.map_congr_left fun p hp => (R.read_right hrs p hp).2).trans (List.map_id' _)
      have hwm := R.wrong_ok hla HOk.out
      have hprm := fun o => HPr.out m (.slice mo m.length mc) (wa.alloc o) (HBa3.out o) ((R.RowP.pts (R.Row.below HM.out ((Below.refl _ wa).alloc (Nat.le_refl _) o))).here)
      rw [R.printV_ok hwm] at hprm
      have HPrm : Hid (∀ o, Calls Tryz.prog 7 #[.slice mo m.length mc] (wa.alloc o) fun e w' => e = .returned (.tuple #[.string ⟨(R.printB m).toArray⟩, .agg #[.int .i64 0, .int .i64 0]]) ∧ Below (wa.alloc o).heap.size (wa.alloc o) w') := hprm
      have HWm : Hid (∀ W, R.Pts W (.slice mo m.length mc) m → Calls Tryz.prog 12 #[.slice mo m.length mc] W fun e w' => e = .returned (.agg #[.int .i64 0, .int .i64 0]) ∧ Below W.heap.size W w') := fun W hp => by have h := HWr.out m _ W hp; rw [hwm] at h; exact h
      have HShm := HSh.out m hla HOk.out
      have HRdm := HRd.out m hla HOk.out
      rw [HBare.out] at HRdm
      have HSh2 : Hid _ := HShm
      have HRd2 : Hid _ := HRdm
      have HSm2 : Hid (∀ p ∈ m, R.Small p) := by have h := HSm.out m HOk.out; rw [HBare.out] at h; exact h
      clear ba ra hprm hwm hrs HShm HRdm
      generalize (⟨(R.printB m).toArray⟩ : ByteArray) = tm at *
      go_wp2_with fail
      refine (HPrm.out _).mono ?_
      rintro e wb ⟨rfl, bb⟩
      obtain ⟨hbb, Bb, hlb⟩ := R.box_kept bb
      have HBb : Hid (Below w.heap.size w wb) := (HBa3.out _).trans (bb.mono (by simp; omega))
      have HMb : Hid (R.RowP w.heap.size wb (.slice mo m.length mc) m) := R.Row.below HM.out Bb
      have HXb : Hid (wb.heap[wa.heap.size]? = some (.cells #[.int .i64 0, .int .i64 0] 26)) := hbb
      obtain ⟨p0, p1, p2, p3⟩ := R.box2 hbb
      obtain ⟨X2, hX2⟩ : ∃ X2, X2 = (wb.setCell ⟨wa.heap.size, 0, none⟩ (.int .i64 0)).setCell ⟨wa.heap.size, 1, none⟩ (.int .i64 0) := ⟨_, rfl⟩
      have hbx : X2.heap[wa.heap.size]? = some (.cells #[.int .i64 0, .int .i64 0] 26) := by rw [hX2]; exact heap_setCell_same _ _ 1 _ _ _ (heap_setCell_same _ _ 0 _ _ _ hbb)
      have hsx : X2.heap.size = wb.heap.size := by rw [hX2]; simp
      have HBx : Hid (Below w.heap.size w X2) := by rw [hX2]; exact (HBb.out.setCell (by show w.heap.size ≤ wa.heap.size; omega) _).setCell (by show w.heap.size ≤ wa.heap.size; omega) _
      have HMx : Hid (R.RowP w.heap.size X2 (.slice mo m.length mc) m) := R.Row.keep HM.out (by omega) (fun b _ hb => by rw [hX2, heap_setCell_other _ ⟨wa.heap.size, 1, none⟩ b _ (by show b ≠ wa.heap.size; omega), heap_setCell_other _ ⟨wa.heap.size, 0, none⟩ b _ (by show b ≠ wa.heap.size; omega)]; exact Bb.block b hb)
      have HXx : Hid (X2.heap[wa.heap.size]? = some (.cells #[.int .i64 0, .int .i64 0] 26)) := hbx
      have hKx : Hid (∀ b, b < wa.heap.size → X2.heap[b]? = wa.heap[b]?) := fun b hb => by rw [hX2, heap_setCell_other _ ⟨wa.heap.size, 1, none⟩ b _ (by show b ≠ wa.heap.size; omega), heap_setCell_other _ ⟨wa.heap.size, 0, none⟩ b _ (by show b ≠ wa.heap.size; omega)]; exact Bb.block b hb
      clear bb hbb Bb hbx HMb HXb
      go_wp2_with fail
      rw [← hX2]
      clear hX2
      refine (HWm.out _ (R.RowP.pts HMx.out).here).mono ?_
      rintro e wc ⟨rfl, bc⟩
      have HBc : Hid (Below w.heap.size w wc) := HBx.out.trans (bc.mono HBx.out.size)
      have HMc : Hid (R.RowP w.heap.size wc (.slice mo m.length mc) m) := R.Row.below HMx.out bc
      have hbc : wc.heap[wa.heap.size]? = some (.cells #[.int .i64 0, .int .i64 0] 26) := R.blk_below HXx.out bc
      have HXc : Hid (wc.heap[wa.heap.size]? = some (.cells #[.int .i64 0, .int .i64 0] 26)) := hbc
      have hsc := bc.size
      obtain ⟨p0, p1, p2, p3⟩ := R.box2 hbc
      have hKc : Hid (∀ b, b < wa.heap.size → wc.heap[b]? = wa.heap[b]?) := fun b hb => (bc.block b (by omega)).trans (hKx.out b hb)
      clear bc hbc
      go_wp2_with fail
      refine (HSh2.out _).mono ?_
      rintro e wd ⟨rfl, bd⟩
      have HBd : Hid (Below w.heap.size w wd) := HBc.out.trans (bd.mono HBc.out.size)
      have HMd : Hid (R.RowP w.heap.size wd (.slice mo m.length mc) m) := R.Row.below HMc.out bd
      have HXd : Hid (wd.heap[wa.heap.size]? = some (.cells #[.int .i64 0, .int .i64 0] 26)) := R.blk_below HXc.out bd
      have hsd := bd.size
      have hKd : Hid (∀ b, b < wa.heap.size → wd.heap[b]? = wa.heap[b]?) := fun b hb => (bd.block b (by omega)).trans (hKc.out b hb)
      clear bd p0 p1 p2 p3
      by_cases h16 : tm.size ≤ 16000
      · rw [decide_eq_true h16]
        have hrd := HRd2.out h16 wd
        go_wp2_with fail
        refine hrd.mono ?_
        rintro e we ⟨ve, rfl, re, be⟩
        have HBe : Hid (Below w.heap.size w we) := HBd.out.trans (be.mono HBd.out.size)
        have hbe : we.heap[wa.heap.size]? = some (.cells #[.int .i64 0, .int .i64 0] 26) := R.blk_below HXd.out be
        have hse := be.size
        have HMe : Hid (R.RowP w.heap.size we (.slice mo m.length mc) m) := R.Row.below HMd.out be
        have hKeep : Hid (∀ b, b < wa.heap.size → we.heap[b]? = wa.heap[b]?) := fun b hb => (be.block b (by omega)).trans (hKd.out b hb)
        obtain ⟨eo, ec, hve⟩ := R.Row.slice re
        subst hve
        obtain ⟨p0, p1, p2, p3⟩ := R.box2 hbe
        obtain ⟨X3, hX3⟩ : ∃ X3, X3 = (we.setCell ⟨wa.heap.size, 0, none⟩ (.int .i64 0)).setCell ⟨wa.heap.size, 1, none⟩ (.int .i64 0) := ⟨_, rfl⟩
        have hbx3 : X3.heap[wa.heap.size]? = some (.cells #[.int .i64 0, .int .i64 0] 26) := by rw [hX3]; exact heap_setCell_same _ _ 1 _ _ _ (heap_setCell_same _ _ 0 _ _ _ hbe)
        have hg3 : we.grownBy X3 (some wa.heap.size) := by rw [hX3]; exact S.grown_trans (R.grown_set _ _ _ _) (R.grown_set _ _ _ _)
        have HB3 : Hid (Below w.heap.size w X3) := HBe.out.grown hg3 HBe.out.size (fun g hg => by have h2 : wa.heap.size = g := Option.some.inj hg; omega)
        have HM3 : Hid (R.Pts X3 (.slice mo m.length mc) m) := (R.RowP.pts (R.Row.keep HM.out (by have := hg3.size; omega) (fun b _ hb => (hg3.block b (by omega) (by intro h; have h2 : b = wa.heap.size := Option.some.inj h; omega)).trans (hKeep.out b hb)))).here
        have HN3 : Hid (R.Pts X3 (.slice eo m.length ec) m) := (R.RowP.pts (R.Row.cur re hg3 (by omega))).here
        obtain ⟨q0, q1, q2, q3⟩ := R.box2 hbx3
        clear be hbe re hg3 hbx3 HMe
        have hSame := Same_eq X3 _ _ m HM3.out HN3.out (by omega) HSm2.out
        go_wp2_with fail
        rw [← hX3]
        clear hX3
        refine hSame.mono ?_
        rintro e wf ⟨rfl, bf⟩
        have HBf : Hid (Below w.heap.size w wf) := HB3.out.trans (bf.mono HB3.out.size)
        clear bf hSame
        go_wp2
        go_ret
        exact ⟨rfl, HBf.out⟩
      · rw [decide_eq_false h16]
        go_wp2
        go_ret
        exact ⟨rfl, HBd.out⟩

end Go.Proofs.YtajbcgobfkaahaaGreatDoor
