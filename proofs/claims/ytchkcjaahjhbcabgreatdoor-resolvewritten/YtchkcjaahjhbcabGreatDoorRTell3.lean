/-
  How parts and files are written: package rulesyn's Print.
-/
import Derived.Test.YtchkcjaahjhbcabGreatDoorRTell2
namespace Go.Proofs.YtchkcjaahjhbcabGreatDoor
open Go.RowKit
set_option maxRecDepth 20000
set_option linter.unusedSimpArgs false
set_option linter.unusedVariables false

theorem setB_len {s : List S.Sp} : (R.setB s).length ≤ 4202 := by
  unfold R.setB
  split
  · rename_i h
    have hn := S.wrongE_zero.1 h
    have := inner_len (l := s) fun x hx => by have := hn.2.mem hx; omega
    simp [T.prt]; omega
  · simp
theorem itemB_len {x : R.Item} (h : R.itemE x = 0) : (R.itemB x).length ≤ 4202 := by
  rcases item_ok h with ⟨h1, h2⟩ | ⟨h1, h2⟩ | ⟨h1, h2⟩
  · have e : R.itemB x = T.quo x.rune := by simp [R.itemB, h1]
    rw [e]
    have hb : x.rune ≤ 1114111 := by unfold M.right at h2; have := of_decide_eq_true h2; omega
    have := (one_len (x := (x.rune, x.rune)) hb hb).2.1
    simp only at this
    omega
  · have e : R.itemB x = R.setB x.set := by simp [R.itemB, h1]
    rw [e]; exact setB_len
  · have e : R.itemB x = 36 :: x.name.data.toList := by simp [R.itemB, h1]
    have := named_small h2
    have hs : x.name.data.toList.length = x.name.size := by simp
    rw [e, List.length_cons]; omega
theorem itemsB_len {l : List R.Item} (h : ∀ x ∈ l, R.itemE x = 0) : ∀ {c : Int}, (R.itemsB l c).length ≤ 4205 * l.length + 2 := by
  induction l with
  | nil => intro c; rw [R.itemsB]; split <;> simp [R.bar]
  | cons x l ih =>
    intro c
    have h1 := itemB_len (h x (by simp))
    have h2 := ih (fun y hy => h y (by simp [hy])) (c := c - 1)
    rw [R.itemsB]
    simp only [List.length_append, List.length_cons, List.length_nil]
    split
    · simp only [R.bar, List.length_cons, List.length_nil]; omega
    · simp only [List.length_nil]; omega
theorem sideB_len {s : R.Side} {m : Bool} (h : R.sideE s m = 0) : (R.sideB s).length ≤ 252400 := by
  obtain ⟨zb, zs, za, _, _⟩ := R.sideE_zero h
  have h1 := itemsB_len (items_ok zb).2 (c := -1)
  have h2 := itemsB_len (items_ok zs).2 (c := s.cursor)
  have h3 := itemsB_len (items_ok za).2 (c := -1)
  have l1 := (items_ok zb).1
  have l2 := (items_ok zs).1
  have l3 := (items_ok za).1
  have i1 : ∀ {p : Prop} [Decidable p] {a b : UInt8}, ((if p then [a, b] else []) : List UInt8).length ≤ 2 := by intro p _ a b; split <;> simp
  unfold R.sideB
  simp only [List.length_append]
  have j1 := i1 (p := s.start = true) (a := 94) (b := 32)
  have j2 := i1 (p := s.start = true ∨ 0 < s.before.length) (a := 123) (b := 32)
  have j3 := i1 (p := s.fin = true ∨ 0 < s.after.length) (a := 125) (b := 32)
  have j4 := i1 (p := s.fin = true) (a := 36) (b := 32)
  omega
theorem part_ok {p : R.Part} (h : R.partE p = 0) : (p.kind = 1 ∧ R.named p.name = true ∧ S.wrongE p.set = 0) ∨ (p.kind = 3 ∧ S.wrongE p.set = 0) ∨ (p.kind = 4 ∧ R.passes p.name = true) ∨ (p.kind = 2 ∧ R.ruleE p = 0) := by
  unfold R.partE at h
  split at h
  · rename_i h1
    split at h
    · rename_i h2; exact .inl ⟨h1, h2, h⟩
    · cases h
  · split at h
    · rename_i h1; exact .inr (.inl ⟨h1, h⟩)
    · split at h
      · rename_i h1
        split at h
        · rename_i h2; exact .inr (.inr (.inl ⟨h1, h2⟩))
        · cases h
      · split at h
        · rename_i h1; exact .inr (.inr (.inr ⟨h1, h⟩))
        · cases h
theorem pass_small {n : ByteArray} (h : R.passes n = true) : n.size ≤ 6 := by
  unfold R.passes at h
  have h := of_decide_eq_true h
  have hs : n.size = n.toList.length := by simp [ByteArray.toList_eq]
  rw [hs]
  rcases h with h | h | h | h <;> (rw [h]; decide)
theorem wordsB_len {p : R.Part} (h : R.partE p = 0) : (R.wordsB p).length ≤ 504900 := by
  rcases part_ok h with ⟨h1, h2, h3⟩ | ⟨h1, h2⟩ | ⟨h1, h2⟩ | ⟨h1, h2⟩
  · have e := named_small h2
    have hs : p.name.data.toList.length = p.name.size := by simp
    have h4 := setB_len (s := p.set)
    unfold R.wordsB
    rw [if_pos h1]
    simp only [List.length_append, List.length_cons, List.length_nil]
    omega
  · have h4 := setB_len (s := p.set)
    unfold R.wordsB
    rw [if_neg (by omega), if_pos h1]
    simp only [List.length_append, List.length_cons, List.length_nil]
    omega
  · have e := pass_small h2
    have hs : p.name.data.toList.length = p.name.size := by simp
    unfold R.wordsB
    rw [if_neg (by omega), if_neg (by omega), if_pos h1]
    simp only [List.length_append, List.length_cons, List.length_nil]
    omega
  · obtain ⟨_, h3, h4, _⟩ := R.ruleE_zero h2
    have l1 := sideB_len h3
    have l2 := sideB_len h4
    unfold R.wordsB
    rw [if_neg (by omega), if_neg (by omega), if_neg (by omega), if_pos h1]
    have l3 : (R.arrowB p.dir).length ≤ 2 := by unfold R.arrowB; split; · simp
                                                split <;> simp
    simp only [List.length_append, List.length_cons, List.length_nil]
    omega
theorem printB_len {l : List R.Part} (h : ∀ p ∈ l, R.partE p = 0) : (R.printB l).length ≤ 504902 * l.length := by
  induction l with
  | nil => simp [R.printB]
  | cons p l ih =>
    have h1 := wordsB_len (h p (by simp))
    have h2 := ih fun q hq => h q (by simp [hq])
    unfold R.printB at h2 ⊢
    have e : (R.partB p).length = (R.wordsB p).length + 2 := by simp [R.partB]
    rw [List.flatMap_cons, List.length_append, List.length_cons, e]
    omega

theorem str_list (n : ByteArray) : n = ⟨n.data.toList.toArray⟩ := by
  apply ByteArray.ext; simp

set_option maxHeartbeats 8000000 in
theorem tellPart_any (w0 : World) (B b : Nat) (w : World) (v : Value) (p : R.Part) (t : List UInt8) (E : R.Env w0 B w) (R0 : R.PtIs w0 v p) (hok : R.partE p = 0) (hb : T.Bd B b t w) (hlen : t.length + (R.wordsB p).length ≤ 1000000000) :
    Calls Tryz.prog 16 #[v, .func (.func 13) #[] #[.pointer (some ⟨b, 0, none⟩)]] w (R.Told B b (t ++ R.wordsB p) w) := by
  have eg : ∀ args w, (callFunc 13 args).run Tryz.prog w = .ok (.enter 13 args) w := enters_of Tryz.func13 (by kernel_rfl) rfl
  obtain ⟨so, sc, lbo, lbc, lso, lsc, lao, lac, rbo, rbc, rso, rsc, rao, rac, rfl, hS, hf, hL, hR, _, _⟩ := R0.open
  clear R0
  have HL : Hid (∀ w1 t, R.Env w0 B w1 → (∃ m, R.sideE p.left m = 0) → T.Bd B b t w1 → t.length + (R.sideB p.left).length ≤ 1000000000 → Calls Tryz.prog 32 #[.agg #[.bool p.left.start, .bool p.left.fin, .slice lbo p.left.before.length lbc, .slice lso p.left.source.length lsc, .slice lao p.left.after.length lac, .int .i64 p.left.cursor], .func (.func 13) #[] #[.pointer (some ⟨b, 0, none⟩)]] w1 (R.Told B b (t ++ R.sideB p.left) w1)) := fun w1 t e1 m1 b1 h1 => tellSide_any w0 B b w1 _ p.left t e1 hL m1 b1 h1
  have HR : Hid (∀ w1 t, R.Env w0 B w1 → (∃ m, R.sideE p.right m = 0) → T.Bd B b t w1 → t.length + (R.sideB p.right).length ≤ 1000000000 → Calls Tryz.prog 32 #[.agg #[.bool p.right.start, .bool p.right.fin, .slice rbo p.right.before.length rbc, .slice rso p.right.source.length rsc, .slice rao p.right.after.length rac, .int .i64 p.right.cursor], .func (.func 13) #[] #[.pointer (some ⟨b, 0, none⟩)]] w1 (R.Told B b (t ++ R.sideB p.right) w1)) := fun w1 t e1 m1 b1 h1 => tellSide_any w0 B b w1 _ p.right t e1 hR m1 b1 h1
  have HS : Hid (∀ w1, R.Env w0 B w1 → Calls Tryz.prog 31 #[.slice so p.set.length sc] w1 fun e w' => e = .returned (.string ⟨(R.setB p.set).toArray⟩) ∧ Below w1.heap.size w1 w') := fun w1 e1 => setText_any w1 _ p.set (hS.below e1.bel (Nat.le_refl _)) hf e1.tzw
  have hk := part_ok hok
  have HE : Hid (R.Env w0 B w) := E
  have HBd : Hid (T.Bd B b t w) := hb
  have HA : Hid (∀ o, Below w.heap.size w (w.alloc o)) := fun o => (Below.refl _ w).alloc (Nat.le_refl _) o
  have HNe : Hid (some w.heap.size ≠ some b) := fun e => by
    have h2 := Option.some.inj e
    rcases hb.1 with h | h <;> (have := h.lt; omega)
  have HBN : Hid (B ≤ w.heap.size) := E.now
  obtain ⟨o, HO⟩ : ∃ o, Hid (R.wordsB p = o) := ⟨_, rfl⟩
  rw [HO.out] at hlen ⊢
  have HLen : Hid (t.length + o.length ≤ 1000000000) := hlen
  clear hS hf hL hR hok E hb hlen
  obtain ⟨pk, pn, ps, pd, pl, pr⟩ := p
  simp only at HL HR HS hk ⊢
  have HWd : Hid (∀ w1 l m, T.Bd B b l w1 → l.length + m.length ≤ 1000000000 → Calls Tryz.prog 13 #[.string ⟨m.toArray⟩, .pointer (some ⟨b, 0, none⟩)] w1 (R.Told B b (l ++ (m ++ [32])) w1)) := fun w1 l m h1 h2 => tword_any B b l m w1 h1 h2
  rcases hk with ⟨rfl, hn, _⟩ | ⟨rfl, _⟩ | ⟨rfl, hn⟩ | ⟨rfl, hrl⟩
  · have hn2 := named_small hn
    have g1 : ¬ 9223372036854775807 < 1 + pn.size := by omega
    obtain ⟨sb, HSB⟩ : ∃ x, Hid (R.setB ps = x) := ⟨_, rfl⟩
    rw [HSB.out] at HS
    have HSB2 : Hid (R.setB ps = sb) := HSB
    obtain ⟨lst, lfi, lbe, lsr, laf, lcu⟩ := pl
    obtain ⟨rst, rfi, rbe, rsr, raf, rcu⟩ := pr
    simp only at HL HR ⊢
    have HW0 : Hid ((36 :: pn.data.toList) ++ [32] ++ [61, 32] ++ (sb ++ [32]) = o) := by
      show _ = _
      rw [← HO.out]
      rw [← HSB.out]; simp [R.wordsB]
    have HLn : Hid (t.length + pn.data.toList.length + 4 + sb.length ≤ 1000000000) := by
      have h := HLen.out
      rw [← HW0.out] at h
      simp only [List.length_append, List.length_cons, List.length_nil] at h
      show _ ≤ _
      omega
    go_enter Tryz.func16, Tryz.ntmps16
    go_wp2_with fail
    have HBW : Hid (Below w.heap.size w (w.alloc (.cells #[.int .i64 1, .string pn, .slice so ps.length sc, .int .i64 pd, .bool lst, .bool lfi, .slice lbo lbe.length lbc, .slice lso lsr.length lsc, .slice lao laf.length lac, .int .i64 lcu, .bool rst, .bool rfi, .slice rbo rbe.length rbc, .slice rso rsr.length rsc, .slice rao raf.length rac, .int .i64 rcu] 47))) := HA.out _
    have HXW : Hid ((w.alloc (.cells #[.int .i64 1, .string pn, .slice so ps.length sc, .int .i64 pd, .bool lst, .bool lfi, .slice lbo lbe.length lbc, .slice lso lsr.length lsc, .slice lao laf.length lac, .int .i64 lcu, .bool rst, .bool rfi, .slice rbo rbe.length rbc, .slice rso rsr.length rsc, .slice rao raf.length rac, .int .i64 rcu] 47)).heap[w.heap.size]? = some (.cells #[.int .i64 1, .string pn, .slice so ps.length sc, .int .i64 pd, .bool lst, .bool lfi, .slice lbo lbe.length lbc, .slice lso lsr.length lsc, .slice lao laf.length lac, .int .i64 lcu, .bool rst, .bool rfi, .slice rbo rbe.length rbc, .slice rso rsr.length rsc, .slice rao raf.length rac, .int .i64 rcu] 47)) := heap_alloc_new w _
    have HD0 : Hid (T.Bd B b t (w.alloc (.cells #[.int .i64 1, .string pn, .slice so ps.length sc, .int .i64 pd, .bool lst, .bool lfi, .slice lbo lbe.length lbc, .slice lso lsr.length lsc, .slice lao laf.length lac, .int .i64 lcu, .bool rst, .bool rfi, .slice rbo rbe.length rbc, .slice rso rsr.length rsc, .slice rao raf.length rac, .int .i64 rcu] 47))) := HBd.out.below HBW.out
    have HE0 : Hid (R.Env w0 B (w.alloc (.cells #[.int .i64 1, .string pn, .slice so ps.length sc, .int .i64 pd, .bool lst, .bool lfi, .slice lbo lbe.length lbc, .slice lso lsr.length lsc, .slice lao laf.length lac, .int .i64 lcu, .bool rst, .bool rfi, .slice rbo rbe.length rbc, .slice rso rsr.length rsc, .slice rao raf.length rac, .int .i64 rcu] 47))) := HE.out.after HBW.out
    rw [dollar]
    refine (HWd.out _ _ (36 :: pn.data.toList) HD0.out (by have := HLn.out; (try simp only [List.length_append, List.length_cons, List.length_nil]); omega)).mono ?_
    generalize w.alloc (.cells #[.int .i64 1, .string pn, .slice so ps.length sc, .int .i64 pd, .bool lst, .bool lfi, .slice lbo lbe.length lbc, .slice lso lsr.length lsc, .slice lao laf.length lac, .int .i64 lcu, .bool rst, .bool rfi, .slice rbo rbe.length rbc, .slice rso rsr.length rsc, .slice rao raf.length rac, .int .i64 rcu] 47) = W at HBW HXW HD0 HE0
    rintro e w1 ⟨rfl, d1, b1, k1⟩
    have HD1 : Hid (T.Bd B b (t ++ ((36 :: pn.data.toList) ++ [32])) w1) := d1
    have HB1 : Hid (Below B W w1) := b1
    have HK1 : Hid (Lib.OthersKept 5 (some b) W w1) := k1
    have HE1 : Hid (R.Env w0 B w1) := HE0.out.next b1
    have hx1 := HK1.out _ _ HXW.out HNe.out (fun c fz h => by cases h)
    have p1_0 : w1.cell? ⟨w.heap.size, 0, none⟩ = some (.int .i64 1) := R.at_box hx1 rfl
    have p1_1 : w1.cell? ⟨w.heap.size, 1, none⟩ = some (.string pn) := R.at_box hx1 rfl
    have p1_2 : w1.cell? ⟨w.heap.size, 2, none⟩ = some (.slice so ps.length sc) := R.at_box hx1 rfl
    clear d1 b1 k1 hx1 HE0
    go_wp2_with fail
    refine (HWd.out _ _ [61] HD1.out (by have := HLn.out; (try simp only [List.length_append, List.length_cons, List.length_nil]); omega)).mono ?_
    rintro e w2 ⟨rfl, d2, b2, k2⟩
    have HD2 : Hid (T.Bd B b ((t ++ ((36 :: pn.data.toList) ++ [32])) ++ ([61] ++ [32])) w2) := d2
    have HB2 : Hid (Below B W w2) := HB1.out.trans b2
    have HK2 : Hid (Lib.OthersKept 5 (some b) W w2) := HK1.out.trans k2
    have HE2 : Hid (R.Env w0 B w2) := HE1.out.next b2
    have hx2 := HK2.out _ _ HXW.out HNe.out (fun c fz h => by cases h)
    have p2_0 : w2.cell? ⟨w.heap.size, 0, none⟩ = some (.int .i64 1) := R.at_box hx2 rfl
    have p2_1 : w2.cell? ⟨w.heap.size, 1, none⟩ = some (.string pn) := R.at_box hx2 rfl
    have p2_2 : w2.cell? ⟨w.heap.size, 2, none⟩ = some (.slice so ps.length sc) := R.at_box hx2 rfl
    clear d2 b2 k2 hx2 HE1
    go_wp2_with fail
    refine (HS.out _ HE2.out).mono ?_
    rintro e w3 ⟨rfl, b3⟩
    have HD3 : Hid (T.Bd B b ((t ++ ((36 :: pn.data.toList) ++ [32])) ++ ([61] ++ [32])) w3) := HD2.out.below b3
    have HB3 : Hid (Below B W w3) := HB2.out.trans (b3.mono HE2.out.now)
    have HK3 : Hid (Lib.OthersKept 5 (some b) W w3) := HK2.out.trans (kept_below b3)
    have HE3 : Hid (R.Env w0 B w3) := HE2.out.after b3
    have hx3 := HK3.out _ _ HXW.out HNe.out (fun c fz h => by cases h)
    have p3_0 : w3.cell? ⟨w.heap.size, 0, none⟩ = some (.int .i64 1) := R.at_box hx3 rfl
    have p3_1 : w3.cell? ⟨w.heap.size, 1, none⟩ = some (.string pn) := R.at_box hx3 rfl
    have p3_2 : w3.cell? ⟨w.heap.size, 2, none⟩ = some (.slice so ps.length sc) := R.at_box hx3 rfl
    clear b3 hx3 HE2
    go_wp2_with fail
    refine (HWd.out _ _ sb HD3.out (by have := HLn.out; (try simp only [List.length_append, List.length_cons, List.length_nil]); omega)).mono ?_
    rintro e w4 ⟨rfl, d4, b4, k4⟩
    have HD4 : Hid (T.Bd B b (((t ++ ((36 :: pn.data.toList) ++ [32])) ++ ([61] ++ [32])) ++ (sb ++ [32])) w4) := d4
    have HB4 : Hid (Below B W w4) := HB3.out.trans b4
    have HK4 : Hid (Lib.OthersKept 5 (some b) W w4) := HK3.out.trans k4
    have HE4 : Hid (R.Env w0 B w4) := HE3.out.next b4
    have hx4 := HK4.out _ _ HXW.out HNe.out (fun c fz h => by cases h)
    have p4_0 : w4.cell? ⟨w.heap.size, 0, none⟩ = some (.int .i64 1) := R.at_box hx4 rfl
    have p4_1 : w4.cell? ⟨w.heap.size, 1, none⟩ = some (.string pn) := R.at_box hx4 rfl
    have p4_2 : w4.cell? ⟨w.heap.size, 2, none⟩ = some (.slice so ps.length sc) := R.at_box hx4 rfl
    clear d4 b4 k4 hx4 HE3
    go_wp2
    go_end0
    refine ⟨rfl, ?_, (HBW.out.mono HBN.out).trans HB4.out, (kept_below HBW.out).trans HK4.out⟩
    have h := HD4.out
    rw [← HW0.out]
    simp only [List.append_assoc, List.cons_append, List.nil_append] at h ⊢
    exact h
  · obtain ⟨sb, HSB⟩ : ∃ x, Hid (R.setB ps = x) := ⟨_, rfl⟩
    rw [HSB.out] at HS
    obtain ⟨lst, lfi, lbe, lsr, laf, lcu⟩ := pl
    obtain ⟨rst, rfi, rbe, rsr, raf, rcu⟩ := pr
    simp only at HL HR ⊢
    have HW0 : Hid ([58, 58, 32] ++ (sb ++ [32]) = o) := by
      show _ = _
      rw [← HO.out]
      rw [← HSB.out]; simp [R.wordsB]
    have HLn : Hid (t.length + 3 + sb.length + 1 ≤ 1000000000) := by
      have h := HLen.out
      rw [← HW0.out] at h
      simp only [List.length_append, List.length_cons, List.length_nil] at h
      show _ ≤ _
      omega
    go_enter Tryz.func16, Tryz.ntmps16
    go_wp2_with fail
    have HBW : Hid (Below w.heap.size w (w.alloc (.cells #[.int .i64 3, .string pn, .slice so ps.length sc, .int .i64 pd, .bool lst, .bool lfi, .slice lbo lbe.length lbc, .slice lso lsr.length lsc, .slice lao laf.length lac, .int .i64 lcu, .bool rst, .bool rfi, .slice rbo rbe.length rbc, .slice rso rsr.length rsc, .slice rao raf.length rac, .int .i64 rcu] 47))) := HA.out _
    have HXW : Hid ((w.alloc (.cells #[.int .i64 3, .string pn, .slice so ps.length sc, .int .i64 pd, .bool lst, .bool lfi, .slice lbo lbe.length lbc, .slice lso lsr.length lsc, .slice lao laf.length lac, .int .i64 lcu, .bool rst, .bool rfi, .slice rbo rbe.length rbc, .slice rso rsr.length rsc, .slice rao raf.length rac, .int .i64 rcu] 47)).heap[w.heap.size]? = some (.cells #[.int .i64 3, .string pn, .slice so ps.length sc, .int .i64 pd, .bool lst, .bool lfi, .slice lbo lbe.length lbc, .slice lso lsr.length lsc, .slice lao laf.length lac, .int .i64 lcu, .bool rst, .bool rfi, .slice rbo rbe.length rbc, .slice rso rsr.length rsc, .slice rao raf.length rac, .int .i64 rcu] 47)) := heap_alloc_new w _
    have HD0 : Hid (T.Bd B b t (w.alloc (.cells #[.int .i64 3, .string pn, .slice so ps.length sc, .int .i64 pd, .bool lst, .bool lfi, .slice lbo lbe.length lbc, .slice lso lsr.length lsc, .slice lao laf.length lac, .int .i64 lcu, .bool rst, .bool rfi, .slice rbo rbe.length rbc, .slice rso rsr.length rsc, .slice rao raf.length rac, .int .i64 rcu] 47))) := HBd.out.below HBW.out
    have HE0 : Hid (R.Env w0 B (w.alloc (.cells #[.int .i64 3, .string pn, .slice so ps.length sc, .int .i64 pd, .bool lst, .bool lfi, .slice lbo lbe.length lbc, .slice lso lsr.length lsc, .slice lao laf.length lac, .int .i64 lcu, .bool rst, .bool rfi, .slice rbo rbe.length rbc, .slice rso rsr.length rsc, .slice rao raf.length rac, .int .i64 rcu] 47))) := HE.out.after HBW.out
    refine (HWd.out _ _ [58, 58] HD0.out (by have := HLn.out; (try simp only [List.length_append, List.length_cons, List.length_nil]); omega)).mono ?_
    generalize w.alloc (.cells #[.int .i64 3, .string pn, .slice so ps.length sc, .int .i64 pd, .bool lst, .bool lfi, .slice lbo lbe.length lbc, .slice lso lsr.length lsc, .slice lao laf.length lac, .int .i64 lcu, .bool rst, .bool rfi, .slice rbo rbe.length rbc, .slice rso rsr.length rsc, .slice rao raf.length rac, .int .i64 rcu] 47) = W at HBW HXW HD0 HE0
    rintro e w1 ⟨rfl, d1, b1, k1⟩
    have HD1 : Hid (T.Bd B b (t ++ ([58, 58] ++ [32])) w1) := d1
    have HB1 : Hid (Below B W w1) := b1
    have HK1 : Hid (Lib.OthersKept 5 (some b) W w1) := k1
    have HE1 : Hid (R.Env w0 B w1) := HE0.out.next b1
    have hx1 := HK1.out _ _ HXW.out HNe.out (fun c fz h => by cases h)
    have p1_0 : w1.cell? ⟨w.heap.size, 0, none⟩ = some (.int .i64 3) := R.at_box hx1 rfl
    have p1_1 : w1.cell? ⟨w.heap.size, 1, none⟩ = some (.string pn) := R.at_box hx1 rfl
    have p1_2 : w1.cell? ⟨w.heap.size, 2, none⟩ = some (.slice so ps.length sc) := R.at_box hx1 rfl
    clear d1 b1 k1 hx1 HE0
    go_wp2_with fail
    refine (HS.out _ HE1.out).mono ?_
    rintro e w2 ⟨rfl, b2⟩
    have HD2 : Hid (T.Bd B b (t ++ ([58, 58] ++ [32])) w2) := HD1.out.below b2
    have HB2 : Hid (Below B W w2) := HB1.out.trans (b2.mono HE1.out.now)
    have HK2 : Hid (Lib.OthersKept 5 (some b) W w2) := HK1.out.trans (kept_below b2)
    have HE2 : Hid (R.Env w0 B w2) := HE1.out.after b2
    have hx2 := HK2.out _ _ HXW.out HNe.out (fun c fz h => by cases h)
    have p2_0 : w2.cell? ⟨w.heap.size, 0, none⟩ = some (.int .i64 3) := R.at_box hx2 rfl
    have p2_1 : w2.cell? ⟨w.heap.size, 1, none⟩ = some (.string pn) := R.at_box hx2 rfl
    have p2_2 : w2.cell? ⟨w.heap.size, 2, none⟩ = some (.slice so ps.length sc) := R.at_box hx2 rfl
    clear b2 hx2 HE1
    go_wp2_with fail
    refine (HWd.out _ _ sb HD2.out (by have := HLn.out; (try simp only [List.length_append, List.length_cons, List.length_nil]); omega)).mono ?_
    rintro e w3 ⟨rfl, d3, b3, k3⟩
    have HD3 : Hid (T.Bd B b ((t ++ ([58, 58] ++ [32])) ++ (sb ++ [32])) w3) := d3
    have HB3 : Hid (Below B W w3) := HB2.out.trans b3
    have HK3 : Hid (Lib.OthersKept 5 (some b) W w3) := HK2.out.trans k3
    have HE3 : Hid (R.Env w0 B w3) := HE2.out.next b3
    have hx3 := HK3.out _ _ HXW.out HNe.out (fun c fz h => by cases h)
    have p3_0 : w3.cell? ⟨w.heap.size, 0, none⟩ = some (.int .i64 3) := R.at_box hx3 rfl
    have p3_1 : w3.cell? ⟨w.heap.size, 1, none⟩ = some (.string pn) := R.at_box hx3 rfl
    have p3_2 : w3.cell? ⟨w.heap.size, 2, none⟩ = some (.slice so ps.length sc) := R.at_box hx3 rfl
    clear d3 b3 k3 hx3 HE2
    go_wp2
    go_end0
    refine ⟨rfl, ?_, (HBW.out.mono HBN.out).trans HB3.out, (kept_below HBW.out).trans HK3.out⟩
    have h := HD3.out
    rw [← HW0.out]
    simp only [List.append_assoc, List.cons_append, List.nil_append] at h ⊢
    exact h
  · have HNm : Hid (∀ w1 l, T.Bd B b l w1 → l.length + pn.data.toList.length ≤ 1000000000 → Calls Tryz.prog 13 #[.string pn, .pointer (some ⟨b, 0, none⟩)] w1 (R.Told B b (l ++ (pn.data.toList ++ [32])) w1)) := fun w1 l h1 h2 => by have h := tword_any B b l pn.data.toList w1 h1 h2; rw [← str_list] at h; exact h
    obtain ⟨lst, lfi, lbe, lsr, laf, lcu⟩ := pl
    obtain ⟨rst, rfi, rbe, rsr, raf, rcu⟩ := pr
    simp only at HL HR ⊢
    have HW0 : Hid ([58, 58, 32] ++ (pn.data.toList ++ [32]) = o) := by
      show _ = _
      rw [← HO.out]
      simp [R.wordsB]
    have HLn : Hid (t.length + 3 + pn.data.toList.length + 1 ≤ 1000000000) := by
      have h := HLen.out
      rw [← HW0.out] at h
      simp only [List.length_append, List.length_cons, List.length_nil] at h
      show _ ≤ _
      omega
    go_enter Tryz.func16, Tryz.ntmps16
    go_wp2_with fail
    have HBW : Hid (Below w.heap.size w (w.alloc (.cells #[.int .i64 4, .string pn, .slice so ps.length sc, .int .i64 pd, .bool lst, .bool lfi, .slice lbo lbe.length lbc, .slice lso lsr.length lsc, .slice lao laf.length lac, .int .i64 lcu, .bool rst, .bool rfi, .slice rbo rbe.length rbc, .slice rso rsr.length rsc, .slice rao raf.length rac, .int .i64 rcu] 47))) := HA.out _
    have HXW : Hid ((w.alloc (.cells #[.int .i64 4, .string pn, .slice so ps.length sc, .int .i64 pd, .bool lst, .bool lfi, .slice lbo lbe.length lbc, .slice lso lsr.length lsc, .slice lao laf.length lac, .int .i64 lcu, .bool rst, .bool rfi, .slice rbo rbe.length rbc, .slice rso rsr.length rsc, .slice rao raf.length rac, .int .i64 rcu] 47)).heap[w.heap.size]? = some (.cells #[.int .i64 4, .string pn, .slice so ps.length sc, .int .i64 pd, .bool lst, .bool lfi, .slice lbo lbe.length lbc, .slice lso lsr.length lsc, .slice lao laf.length lac, .int .i64 lcu, .bool rst, .bool rfi, .slice rbo rbe.length rbc, .slice rso rsr.length rsc, .slice rao raf.length rac, .int .i64 rcu] 47)) := heap_alloc_new w _
    have HD0 : Hid (T.Bd B b t (w.alloc (.cells #[.int .i64 4, .string pn, .slice so ps.length sc, .int .i64 pd, .bool lst, .bool lfi, .slice lbo lbe.length lbc, .slice lso lsr.length lsc, .slice lao laf.length lac, .int .i64 lcu, .bool rst, .bool rfi, .slice rbo rbe.length rbc, .slice rso rsr.length rsc, .slice rao raf.length rac, .int .i64 rcu] 47))) := HBd.out.below HBW.out
    have HE0 : Hid (R.Env w0 B (w.alloc (.cells #[.int .i64 4, .string pn, .slice so ps.length sc, .int .i64 pd, .bool lst, .bool lfi, .slice lbo lbe.length lbc, .slice lso lsr.length lsc, .slice lao laf.length lac, .int .i64 lcu, .bool rst, .bool rfi, .slice rbo rbe.length rbc, .slice rso rsr.length rsc, .slice rao raf.length rac, .int .i64 rcu] 47))) := HE.out.after HBW.out
    refine (HWd.out _ _ [58, 58] HD0.out (by have := HLn.out; (try simp only [List.length_append, List.length_cons, List.length_nil]); omega)).mono ?_
    generalize w.alloc (.cells #[.int .i64 4, .string pn, .slice so ps.length sc, .int .i64 pd, .bool lst, .bool lfi, .slice lbo lbe.length lbc, .slice lso lsr.length lsc, .slice lao laf.length lac, .int .i64 lcu, .bool rst, .bool rfi, .slice rbo rbe.length rbc, .slice rso rsr.length rsc, .slice rao raf.length rac, .int .i64 rcu] 47) = W at HBW HXW HD0 HE0
    rintro e w1 ⟨rfl, d1, b1, k1⟩
    have HD1 : Hid (T.Bd B b (t ++ ([58, 58] ++ [32])) w1) := d1
    have HB1 : Hid (Below B W w1) := b1
    have HK1 : Hid (Lib.OthersKept 5 (some b) W w1) := k1
    have HE1 : Hid (R.Env w0 B w1) := HE0.out.next b1
    have hx1 := HK1.out _ _ HXW.out HNe.out (fun c fz h => by cases h)
    have p1_0 : w1.cell? ⟨w.heap.size, 0, none⟩ = some (.int .i64 4) := R.at_box hx1 rfl
    have p1_1 : w1.cell? ⟨w.heap.size, 1, none⟩ = some (.string pn) := R.at_box hx1 rfl
    have p1_2 : w1.cell? ⟨w.heap.size, 2, none⟩ = some (.slice so ps.length sc) := R.at_box hx1 rfl
    clear d1 b1 k1 hx1 HE0
    go_wp2_with fail
    refine (HNm.out _ _ HD1.out (by have := HLn.out; (try simp only [List.length_append, List.length_cons, List.length_nil]); omega)).mono ?_
    rintro e w2 ⟨rfl, d2, b2, k2⟩
    have HD2 : Hid (T.Bd B b ((t ++ ([58, 58] ++ [32])) ++ (pn.data.toList ++ [32])) w2) := d2
    have HB2 : Hid (Below B W w2) := HB1.out.trans b2
    have HK2 : Hid (Lib.OthersKept 5 (some b) W w2) := HK1.out.trans k2
    have HE2 : Hid (R.Env w0 B w2) := HE1.out.next b2
    have hx2 := HK2.out _ _ HXW.out HNe.out (fun c fz h => by cases h)
    have p2_0 : w2.cell? ⟨w.heap.size, 0, none⟩ = some (.int .i64 4) := R.at_box hx2 rfl
    have p2_1 : w2.cell? ⟨w.heap.size, 1, none⟩ = some (.string pn) := R.at_box hx2 rfl
    have p2_2 : w2.cell? ⟨w.heap.size, 2, none⟩ = some (.slice so ps.length sc) := R.at_box hx2 rfl
    clear d2 b2 k2 hx2 HE1
    go_wp2
    go_end0
    refine ⟨rfl, ?_, (HBW.out.mono HBN.out).trans HB2.out, (kept_below HBW.out).trans HK2.out⟩
    have h := HD2.out
    rw [← HW0.out]
    simp only [List.append_assoc, List.cons_append, List.nil_append] at h ⊢
    exact h
  · obtain ⟨hdir, hzl, hzr, _⟩ := R.ruleE_zero hrl
    simp only at hzl hzr
    have HLok : Hid (R.sideE pl (decide (pd ≠ 2)) = 0) := hzl
    have HRok : Hid (R.sideE pr (decide (pd ≠ 1)) = 0) := hzr
    clear hzl hzr hdir hrl
    obtain ⟨sl, HSL⟩ : ∃ x, Hid (R.sideB pl = x) := ⟨_, rfl⟩
    obtain ⟨sr, HSR⟩ : ∃ x, Hid (R.sideB pr = x) := ⟨_, rfl⟩
    obtain ⟨ad, HAD⟩ : ∃ x, Hid (R.arrowB pd = x) := ⟨_, rfl⟩
    rw [HSL.out] at HL
    rw [HSR.out] at HR
    have HAr : Hid (∀ w1, Calls Tryz.prog 33 #[.int .i64 pd] w1 fun e w' => e = .returned (.string ⟨ad.toArray⟩) ∧ w' = w1) := fun w1 => by have h := arrow_any pd w1; rw [HAD.out] at h; exact h
    obtain ⟨lst, lfi, lbe, lsr, laf, lcu⟩ := pl
    obtain ⟨rst, rfi, rbe, rsr, raf, rcu⟩ := pr
    simp only at HL HR ⊢
    have HW0 : Hid (sl ++ (ad ++ [32]) ++ sr = o) := by
      show _ = _
      rw [← HO.out]
      rw [← HSL.out, ← HSR.out, ← HAD.out]; simp [R.wordsB]
    have HLn : Hid (t.length + sl.length + ad.length + 1 + sr.length ≤ 1000000000) := by
      have h := HLen.out
      rw [← HW0.out] at h
      simp only [List.length_append, List.length_cons, List.length_nil] at h
      show _ ≤ _
      omega
    go_enter Tryz.func16, Tryz.ntmps16
    go_wp2_with fail
    have HBW : Hid (Below w.heap.size w (w.alloc (.cells #[.int .i64 2, .string pn, .slice so ps.length sc, .int .i64 pd, .bool lst, .bool lfi, .slice lbo lbe.length lbc, .slice lso lsr.length lsc, .slice lao laf.length lac, .int .i64 lcu, .bool rst, .bool rfi, .slice rbo rbe.length rbc, .slice rso rsr.length rsc, .slice rao raf.length rac, .int .i64 rcu] 47))) := HA.out _
    have HXW : Hid ((w.alloc (.cells #[.int .i64 2, .string pn, .slice so ps.length sc, .int .i64 pd, .bool lst, .bool lfi, .slice lbo lbe.length lbc, .slice lso lsr.length lsc, .slice lao laf.length lac, .int .i64 lcu, .bool rst, .bool rfi, .slice rbo rbe.length rbc, .slice rso rsr.length rsc, .slice rao raf.length rac, .int .i64 rcu] 47)).heap[w.heap.size]? = some (.cells #[.int .i64 2, .string pn, .slice so ps.length sc, .int .i64 pd, .bool lst, .bool lfi, .slice lbo lbe.length lbc, .slice lso lsr.length lsc, .slice lao laf.length lac, .int .i64 lcu, .bool rst, .bool rfi, .slice rbo rbe.length rbc, .slice rso rsr.length rsc, .slice rao raf.length rac, .int .i64 rcu] 47)) := heap_alloc_new w _
    have HD0 : Hid (T.Bd B b t (w.alloc (.cells #[.int .i64 2, .string pn, .slice so ps.length sc, .int .i64 pd, .bool lst, .bool lfi, .slice lbo lbe.length lbc, .slice lso lsr.length lsc, .slice lao laf.length lac, .int .i64 lcu, .bool rst, .bool rfi, .slice rbo rbe.length rbc, .slice rso rsr.length rsc, .slice rao raf.length rac, .int .i64 rcu] 47))) := HBd.out.below HBW.out
    have HE0 : Hid (R.Env w0 B (w.alloc (.cells #[.int .i64 2, .string pn, .slice so ps.length sc, .int .i64 pd, .bool lst, .bool lfi, .slice lbo lbe.length lbc, .slice lso lsr.length lsc, .slice lao laf.length lac, .int .i64 lcu, .bool rst, .bool rfi, .slice rbo rbe.length rbc, .slice rso rsr.length rsc, .slice rao raf.length rac, .int .i64 rcu] 47))) := HE.out.after HBW.out
    refine (HL.out _ _ HE0.out ⟨_, HLok.out⟩ HD0.out (by have := HLn.out; (try simp only [List.length_append, List.length_cons, List.length_nil]); omega)).mono ?_
    generalize w.alloc (.cells #[.int .i64 2, .string pn, .slice so ps.length sc, .int .i64 pd, .bool lst, .bool lfi, .slice lbo lbe.length lbc, .slice lso lsr.length lsc, .slice lao laf.length lac, .int .i64 lcu, .bool rst, .bool rfi, .slice rbo rbe.length rbc, .slice rso rsr.length rsc, .slice rao raf.length rac, .int .i64 rcu] 47) = W at HBW HXW HD0 HE0
    rintro e w1 ⟨rfl, d1, b1, k1⟩
    have HD1 : Hid (T.Bd B b (t ++ sl) w1) := d1
    have HB1 : Hid (Below B W w1) := b1
    have HK1 : Hid (Lib.OthersKept 5 (some b) W w1) := k1
    have HE1 : Hid (R.Env w0 B w1) := HE0.out.next b1
    have hx1 := HK1.out _ _ HXW.out HNe.out (fun c fz h => by cases h)
    have p1_0 : w1.cell? ⟨w.heap.size, 0, none⟩ = some (.int .i64 2) := R.at_box hx1 rfl
    have p1_1 : w1.cell? ⟨w.heap.size, 1, none⟩ = some (.string pn) := R.at_box hx1 rfl
    have p1_2 : w1.cell? ⟨w.heap.size, 2, none⟩ = some (.slice so ps.length sc) := R.at_box hx1 rfl
    have p1_3 : w1.cell? ⟨w.heap.size, 3, none⟩ = some (.int .i64 pd) := R.at_box hx1 rfl
    have p1_4 : w1.cell? ⟨w.heap.size, 4, none⟩ = some (.bool lst) := R.at_box hx1 rfl
    have p1_5 : w1.cell? ⟨w.heap.size, 5, none⟩ = some (.bool lfi) := R.at_box hx1 rfl
    have p1_6 : w1.cell? ⟨w.heap.size, 6, none⟩ = some (.slice lbo lbe.length lbc) := R.at_box hx1 rfl
    have p1_7 : w1.cell? ⟨w.heap.size, 7, none⟩ = some (.slice lso lsr.length lsc) := R.at_box hx1 rfl
    have p1_8 : w1.cell? ⟨w.heap.size, 8, none⟩ = some (.slice lao laf.length lac) := R.at_box hx1 rfl
    have p1_9 : w1.cell? ⟨w.heap.size, 9, none⟩ = some (.int .i64 lcu) := R.at_box hx1 rfl
    have p1_10 : w1.cell? ⟨w.heap.size, 10, none⟩ = some (.bool rst) := R.at_box hx1 rfl
    have p1_11 : w1.cell? ⟨w.heap.size, 11, none⟩ = some (.bool rfi) := R.at_box hx1 rfl
    have p1_12 : w1.cell? ⟨w.heap.size, 12, none⟩ = some (.slice rbo rbe.length rbc) := R.at_box hx1 rfl
    have p1_13 : w1.cell? ⟨w.heap.size, 13, none⟩ = some (.slice rso rsr.length rsc) := R.at_box hx1 rfl
    have p1_14 : w1.cell? ⟨w.heap.size, 14, none⟩ = some (.slice rao raf.length rac) := R.at_box hx1 rfl
    have p1_15 : w1.cell? ⟨w.heap.size, 15, none⟩ = some (.int .i64 rcu) := R.at_box hx1 rfl
    clear d1 b1 k1 hx1 HE0
    go_wp2_with fail
    refine (HAr.out _).mono ?_
    rintro e w2 ⟨rfl, rfl⟩
    have HD2 : Hid (T.Bd B b (t ++ sl) w2) := HD1.out
    have HB2 : Hid (Below B W w2) := HB1.out
    have HK2 : Hid (Lib.OthersKept 5 (some b) W w2) := HK1.out
    have HE2 : Hid (R.Env w0 B w2) := HE1.out
    clear HE1 HB1 HK1 HD1
    go_wp2_with fail
    refine (HWd.out _ _ ad HD2.out (by have := HLn.out; (try simp only [List.length_append, List.length_cons, List.length_nil]); omega)).mono ?_
    rintro e w3 ⟨rfl, d3, b3, k3⟩
    have HD3 : Hid (T.Bd B b ((t ++ sl) ++ (ad ++ [32])) w3) := d3
    have HB3 : Hid (Below B W w3) := HB2.out.trans b3
    have HK3 : Hid (Lib.OthersKept 5 (some b) W w3) := HK2.out.trans k3
    have HE3 : Hid (R.Env w0 B w3) := HE2.out.next b3
    have hx3 := HK3.out _ _ HXW.out HNe.out (fun c fz h => by cases h)
    have p3_0 : w3.cell? ⟨w.heap.size, 0, none⟩ = some (.int .i64 2) := R.at_box hx3 rfl
    have p3_1 : w3.cell? ⟨w.heap.size, 1, none⟩ = some (.string pn) := R.at_box hx3 rfl
    have p3_2 : w3.cell? ⟨w.heap.size, 2, none⟩ = some (.slice so ps.length sc) := R.at_box hx3 rfl
    have p3_3 : w3.cell? ⟨w.heap.size, 3, none⟩ = some (.int .i64 pd) := R.at_box hx3 rfl
    have p3_4 : w3.cell? ⟨w.heap.size, 4, none⟩ = some (.bool lst) := R.at_box hx3 rfl
    have p3_5 : w3.cell? ⟨w.heap.size, 5, none⟩ = some (.bool lfi) := R.at_box hx3 rfl
    have p3_6 : w3.cell? ⟨w.heap.size, 6, none⟩ = some (.slice lbo lbe.length lbc) := R.at_box hx3 rfl
    have p3_7 : w3.cell? ⟨w.heap.size, 7, none⟩ = some (.slice lso lsr.length lsc) := R.at_box hx3 rfl
    have p3_8 : w3.cell? ⟨w.heap.size, 8, none⟩ = some (.slice lao laf.length lac) := R.at_box hx3 rfl
    have p3_9 : w3.cell? ⟨w.heap.size, 9, none⟩ = some (.int .i64 lcu) := R.at_box hx3 rfl
    have p3_10 : w3.cell? ⟨w.heap.size, 10, none⟩ = some (.bool rst) := R.at_box hx3 rfl
    have p3_11 : w3.cell? ⟨w.heap.size, 11, none⟩ = some (.bool rfi) := R.at_box hx3 rfl
    have p3_12 : w3.cell? ⟨w.heap.size, 12, none⟩ = some (.slice rbo rbe.length rbc) := R.at_box hx3 rfl
    have p3_13 : w3.cell? ⟨w.heap.size, 13, none⟩ = some (.slice rso rsr.length rsc) := R.at_box hx3 rfl
    have p3_14 : w3.cell? ⟨w.heap.size, 14, none⟩ = some (.slice rao raf.length rac) := R.at_box hx3 rfl
    have p3_15 : w3.cell? ⟨w.heap.size, 15, none⟩ = some (.int .i64 rcu) := R.at_box hx3 rfl
    clear d3 b3 k3 hx3 HE2
    go_wp2_with fail
    refine (HR.out _ _ HE3.out ⟨_, HRok.out⟩ HD3.out (by have := HLn.out; (try simp only [List.length_append, List.length_cons, List.length_nil]); omega)).mono ?_
    rintro e w4 ⟨rfl, d4, b4, k4⟩
    have HD4 : Hid (T.Bd B b (((t ++ sl) ++ (ad ++ [32])) ++ sr) w4) := d4
    have HB4 : Hid (Below B W w4) := HB3.out.trans b4
    have HK4 : Hid (Lib.OthersKept 5 (some b) W w4) := HK3.out.trans k4
    have HE4 : Hid (R.Env w0 B w4) := HE3.out.next b4
    have hx4 := HK4.out _ _ HXW.out HNe.out (fun c fz h => by cases h)
    have p4_0 : w4.cell? ⟨w.heap.size, 0, none⟩ = some (.int .i64 2) := R.at_box hx4 rfl
    have p4_1 : w4.cell? ⟨w.heap.size, 1, none⟩ = some (.string pn) := R.at_box hx4 rfl
    have p4_2 : w4.cell? ⟨w.heap.size, 2, none⟩ = some (.slice so ps.length sc) := R.at_box hx4 rfl
    have p4_3 : w4.cell? ⟨w.heap.size, 3, none⟩ = some (.int .i64 pd) := R.at_box hx4 rfl
    have p4_4 : w4.cell? ⟨w.heap.size, 4, none⟩ = some (.bool lst) := R.at_box hx4 rfl
    have p4_5 : w4.cell? ⟨w.heap.size, 5, none⟩ = some (.bool lfi) := R.at_box hx4 rfl
    have p4_6 : w4.cell? ⟨w.heap.size, 6, none⟩ = some (.slice lbo lbe.length lbc) := R.at_box hx4 rfl
    have p4_7 : w4.cell? ⟨w.heap.size, 7, none⟩ = some (.slice lso lsr.length lsc) := R.at_box hx4 rfl
    have p4_8 : w4.cell? ⟨w.heap.size, 8, none⟩ = some (.slice lao laf.length lac) := R.at_box hx4 rfl
    have p4_9 : w4.cell? ⟨w.heap.size, 9, none⟩ = some (.int .i64 lcu) := R.at_box hx4 rfl
    have p4_10 : w4.cell? ⟨w.heap.size, 10, none⟩ = some (.bool rst) := R.at_box hx4 rfl
    have p4_11 : w4.cell? ⟨w.heap.size, 11, none⟩ = some (.bool rfi) := R.at_box hx4 rfl
    have p4_12 : w4.cell? ⟨w.heap.size, 12, none⟩ = some (.slice rbo rbe.length rbc) := R.at_box hx4 rfl
    have p4_13 : w4.cell? ⟨w.heap.size, 13, none⟩ = some (.slice rso rsr.length rsc) := R.at_box hx4 rfl
    have p4_14 : w4.cell? ⟨w.heap.size, 14, none⟩ = some (.slice rao raf.length rac) := R.at_box hx4 rfl
    have p4_15 : w4.cell? ⟨w.heap.size, 15, none⟩ = some (.int .i64 rcu) := R.at_box hx4 rfl
    clear d4 b4 k4 hx4 HE3
    go_wp2
    go_end0
    refine ⟨rfl, ?_, (HBW.out.mono HBN.out).trans HB4.out, (kept_below HBW.out).trans HK4.out⟩
    have h := HD4.out
    rw [← HW0.out]
    simp only [List.append_assoc, List.cons_append, List.nil_append] at h ⊢
    exact h

end Go.Proofs.YtchkcjaahjhbcabGreatDoor
