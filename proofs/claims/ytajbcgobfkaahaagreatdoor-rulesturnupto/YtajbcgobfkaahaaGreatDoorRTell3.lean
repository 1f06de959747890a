/-
  How parts are written: package rulesyn's words.
-/
import Derived.Test.YtajbcgobfkaahaaGreatDoorRWrong3
import Derived.Test.YtajbcgobfkaahaaGreatDoorTPrint
namespace Go.Proofs.YtajbcgobfkaahaaGreatDoor
open Go.RowKit
set_option maxRecDepth 20000
set_option linter.unusedSimpArgs false
set_option linter.unusedVariables false

theorem kept_below {e : TypeId} {b : Option Nat} {w w' : World} (h : Below w.heap.size w w') : Lib.OthersKept e b w w' := fun k o hk _ _ => by
  rw [h.block k (Array.getElem?_eq_some_iff.1 hk).1]; exact hk

/-- the world in which the arguments were laid, the builder's base, and now -/
structure R.Env (w0 : World) (B : Nat) (w : World) : Prop where
  tz : T.Tz w0
  le : w0.heap.size ≤ B
  bel : Below w0.heap.size w0 w
  now : B ≤ w.heap.size
theorem R.Env.next {w0 w w' : World} {B : Nat} (h : R.Env w0 B w) (hb : Below B w w') : R.Env w0 B w' := ⟨h.tz, h.le, h.bel.trans (hb.mono h.le), Nat.le_trans h.now hb.size⟩
theorem R.Env.tzw {w0 w : World} {B : Nat} (h : R.Env w0 B w) : T.Tz w := h.tz.below h.bel h.tz.lt
theorem R.Env.after {w0 w w' : World} {B : Nat} (h : R.Env w0 B w) (hb : Below w.heap.size w w') : R.Env w0 B w' := h.next (hb.mono h.now)

/-- what was told: the builder holds l, and nothing else has changed -/
def R.Told (B b : Nat) (l : List UInt8) (w : World) (e : Ending) (w' : World) : Prop :=
  e = .returned (.tuple #[]) ∧ T.Bd B b l w' ∧ Below B w w' ∧ Lib.OthersKept 5 (some b) w w'

theorem setText_any (w : World) (v : Value) (l : List S.Sp) (R0 : S.Rd w v l) (hf : S.Fit l) (hT : T.Tz w) :
    Calls Tryz.prog 35 #[v] w fun e w' => e = .returned (.string ⟨(R.setB l).toArray⟩) ∧ Below w.heap.size w w' := by
  have HP : Hid (Calls Tryz.prog 57 #[v] w fun e w' => e = .returned (T.prE l) ∧ Below w.heap.size w w') := print_any w v l R0 hf hT
  obtain ⟨ao, cap, rfl⟩ := R0.len
  have he : T.prE l = .tuple #[.string ⟨(R.setB l).toArray⟩, .int .i64 (S.wrongE l)] := rfl
  rw [he] at HP
  generalize (⟨(R.setB l).toArray⟩ : ByteArray) = s at *
  generalize S.wrongE l = z at *
  clear R0 hf hT he
  go_enter Tryz.func35, Tryz.ntmps35
  go_wp2_with fail
  refine HP.out.mono ?_
  rintro e w1 ⟨rfl, b1⟩
  go_wp2
  go_ret
  exact ⟨rfl, b1⟩

theorem dollar (n : ByteArray) : (⟨#[36]⟩ : ByteArray) ++ n = ⟨(36 :: n.data.toList).toArray⟩ := by
  apply ByteArray.ext
  apply Array.toList_inj.1
  simp
theorem named_small {n : ByteArray} (h : R.named n = true) : 1 ≤ n.size ∧ n.size ≤ 20 := by
  unfold R.named at h
  simp only [Bool.and_eq_true, decide_eq_true_eq] at h
  omega
theorem item_ok {x : R.Item} (h : R.itemE x = 0) : (x.kind = 1 ∧ M.right x.rune = true) ∨ (x.kind = 2 ∧ S.wrongE x.set = 0) ∨ (x.kind = 3 ∧ R.named x.name = true) := by
  unfold R.itemE at h
  split at h
  · rename_i h1
    split at h
    · rename_i h2; exact .inl ⟨h1, h2⟩
    · cases h
  · split at h
    · rename_i h1; exact .inr (.inl ⟨h1, h⟩)
    · split at h
      · rename_i h1
        split at h
        · rename_i h2; exact .inr (.inr ⟨h1, h2⟩)
        · cases h
      · cases h

set_option maxHeartbeats 2000000 in
theorem itemText_any (w : World) (x : R.Item) (so : Option Addr) (sc : Nat) (R0 : S.Rd w (.slice so x.set.length sc) x.set) (hf : S.Fit x.set) (hx : R.itemE x = 0) (hT : T.Tz w) :
    Calls Tryz.prog 81 #[.agg #[.int .i64 x.kind, .int .i32 x.rune, .slice so x.set.length sc, .string x.name]] w fun e w' => e = .returned (.string ⟨(R.itemB x).toArray⟩) ∧ Below w.heap.size w w' := by
  have ho := item_ok hx
  obtain ⟨k, r, s, n⟩ := x
  simp only at R0 hf ho ⊢
  have HA : Hid (∀ o, Below w.heap.size w (w.alloc o)) := fun o => (Below.refl _ w).alloc (Nat.le_refl _) o
  have HS : Hid (∀ o, Calls Tryz.prog 35 #[.slice so s.length sc] (w.alloc o) fun e w' => e = .returned (.string ⟨(R.setB s).toArray⟩) ∧ Below (w.alloc o).heap.size (w.alloc o) w') := fun o =>
    setText_any _ _ s (R.rd_keeps R0 (R.Keeps.alloc w o)) hf (hT.below (HA.out o) hT.lt)
  have HT : Hid (∀ o, T.Tz (w.alloc o)) := fun o => hT.below (HA.out o) hT.lt
  clear R0 hf hx hT
  rcases ho with ⟨rfl, hr⟩ | ⟨rfl, hw⟩ | ⟨rfl, hn⟩
  · have hb : 0 ≤ r ∧ r ≤ 1114111 := by unfold M.right at hr; have := of_decide_eq_true hr; omega
    have e1 : R.itemB ⟨1, r, s, n⟩ = T.quo r := by simp [R.itemB]
    rw [e1]
    generalize hq : (⟨(T.quo r).toArray⟩ : ByteArray) = t
    have HQ : Hid (∀ o, Calls Tryz.prog 80 #[.int .i32 r] (w.alloc o) fun e w' => e = .returned (.string t) ∧ Below (w.alloc o).heap.size (w.alloc o) w') := fun o => by
      rw [← hq]; exact quote_any r hb.1 hb.2 _ (HT.out o)
    clear hq e1
    go_enter Tryz.func81, Tryz.ntmps81
    go_wp2_with fail
    refine (HQ.out _).mono ?_
    rintro e w1 ⟨rfl, b1⟩
    obtain ⟨_, B1, _⟩ := R.box_kept b1
    have HB1 : Hid (Below w.heap.size w w1) := B1
    clear b1 B1
    go_wp2
    go_ret
    exact ⟨rfl, HB1.out⟩
  · have e1 : R.itemB ⟨2, r, s, n⟩ = R.setB s := by simp [R.itemB]
    rw [e1]
    generalize (⟨(R.setB s).toArray⟩ : ByteArray) = t at *
    clear e1
    go_enter Tryz.func81, Tryz.ntmps81
    go_wp2_with fail
    refine (HS.out _).mono ?_
    rintro e w1 ⟨rfl, b1⟩
    obtain ⟨_, B1, _⟩ := R.box_kept b1
    have HB1 : Hid (Below w.heap.size w w1) := B1
    clear b1 B1
    go_wp2
    go_ret
    exact ⟨rfl, HB1.out⟩
  · have e1 : R.itemB ⟨3, r, s, n⟩ = 36 :: n.data.toList := by simp [R.itemB]
    have hn2 := named_small hn
    rw [e1, ← dollar]
    have g1 : ¬ 9223372036854775807 < 1 + n.size := by omega
    go_enter Tryz.func81, Tryz.ntmps81
    go_wp2
    go_ret
    exact ⟨rfl, HA.out _⟩

theorem arrow_any (d : Int) (w : World) :
    Calls Tryz.prog 37 #[.int .i64 d] w fun e w' => e = .returned (.string ⟨(R.arrowB d).toArray⟩) ∧ w' = w := by
  unfold R.arrowB
  by_cases h1 : d = 1
  · subst h1
    go_enter Tryz.func37, Tryz.ntmps37
    go_wp2
    go_ret
    exact ⟨rfl, rfl⟩
  · by_cases h2 : d = 2
    · subst h2
      go_enter Tryz.func37, Tryz.ntmps37
      go_wp2
      go_ret
      exact ⟨rfl, rfl⟩
    · rw [if_neg h1, if_neg h2]
      go_enter Tryz.func37, Tryz.ntmps37
      go_wp2
      go_ret
      exact ⟨rfl, rfl⟩

/-- a word, and a blank behind it -/
theorem tword_any (B b : Nat) (l m : List UInt8) (w : World) (h : T.Bd B b l w) (hl : l.length + m.length ≤ 1000000000) :
    Calls Tryz.prog 16 #[.string ⟨m.toArray⟩, .pointer (some ⟨b, 0, none⟩)] w (R.Told B b (l ++ (m ++ [32])) w) := by
  have HW : Hid (Calls Tryz.prog 17 #[.pointer (some ⟨b, 0, none⟩), .string ⟨m.toArray⟩] w fun e w' => (∃ v, e = .returned v) ∧ T.Bd B b (l ++ m) w' ∧ Below B w w' ∧ Lib.OthersKept 5 (some b) w w') := bd_string B b l m w h (by omega)
  have HB : Hid (∀ w1, T.Bd B b (l ++ m) w1 → Calls Tryz.prog 18 #[.pointer (some ⟨b, 0, none⟩), .int .u8 32] w1 fun e w' => e = .returned .nilIface ∧ T.Bd B b ((l ++ m) ++ [32]) w' ∧ Below B w1 w' ∧ Lib.OthersKept 5 (some b) w1 w') := fun w1 h1 => bd_byte B b _ 32 32 rfl w1 h1 (by rw [List.length_append]; omega)
  generalize (⟨m.toArray⟩ : ByteArray) = s at *
  clear h hl
  go_enter Tryz.func16, Tryz.ntmps16
  go_wp2_with fail
  refine HW.out.mono ?_
  rintro e w1 ⟨⟨v1, rfl⟩, d1, b1, k1⟩
  go_wp2_with fail
  refine (HB.out w1 d1).mono ?_
  rintro e w2 ⟨rfl, d2, b2, k2⟩
  go_wp2
  go_end0
  rw [List.append_assoc] at d2
  exact ⟨rfl, d2, b1.trans b2, k1.trans k2⟩

theorem itemsB_drop {l : List R.Item} {k : Nat} {x : R.Item} {c : Int} (hx : l[k]? = some x) : R.itemsB (l.drop k) (c - k) = (if (k : Int) = c then R.bar else []) ++ (R.itemB x ++ [32]) ++ R.itemsB (l.drop (k + 1)) (c - (k + 1 : Nat)) := by
  have hlt := (List.getElem?_eq_some_iff.1 hx).1
  rw [List.drop_eq_getElem_cons hlt]
  have : l[k] = x := by rw [List.getElem?_eq_getElem hlt] at hx; exact Option.some.inj hx
  rw [this, R.itemsB]
  have e : c - ((k + 1 : Nat) : Int) = c - k - 1 := by omega
  rw [e]
  by_cases h : (k : Int) = c
  · rw [if_pos h, if_pos (by omega)]
  · rw [if_neg h, if_neg (by omega)]

set_option maxHeartbeats 4000000 in
theorem tellItems_any (w0 : World) (B b : Nat) (w : World) (v : Value) (l : List R.Item) (c : Int) (t : List UInt8) (E : R.Env w0 B w) (R0 : R.Its w0 v l) (hl : l.length ≤ 20) (hok : ∀ x ∈ l, R.itemE x = 0) (hb : T.Bd B b t w) (hc : -1 ≤ c) (hlen : t.length + (R.itemsB l c).length ≤ 1000000000) :
    Calls Tryz.prog 58 #[v, .int .i64 c, .func (.func 16) #[] #[.pointer (some ⟨b, 0, none⟩)]] w (R.Told B b (t ++ R.itemsB l c) w) := by
  have eg : ∀ args w, (callFunc 16 args).run Tryz.prog w = .ok (.enter 16 args) w := enters_of Tryz.func16 (by kernel_rfl) rfl
  have HR : Hid (R.Its w0 v l) := R0
  obtain ⟨ao, cap, rfl⟩ := R0.len
  have HE : Hid (R.Env w0 B w) := E
  have HBd : Hid (T.Bd B b t w) := hb
  have HOk : Hid (∀ x ∈ l, R.itemE x = 0) := hok
  obtain ⟨o, HO⟩ : ∃ o, Hid (R.itemsB l c = o) := ⟨_, rfl⟩
  rw [HO.out] at hlen ⊢
  have HLen : Hid (t.length + o.length ≤ 1000000000) := hlen
  clear R0 E hb hok hlen
  go_enter Tryz.func58, Tryz.ntmps58
  go_wp2
  go_loopw [10] (fun i wr => ∃ (k : Nat) (m : List UInt8), k ≤ l.length ∧ i = .int .i64 k ∧ Hid (m ++ R.itemsB (l.drop k) (c - k) = o) ∧ Hid (T.Bd B b (t ++ m) wr) ∧ Hid (Below B w wr) ∧ Hid (Lib.OthersKept 5 (some b) w wr)) (fun i _ => l.length - (intOf i).toNat)
  case atStart => exact ⟨0, [], Nat.zero_le _, rfl, by show _ = _; rw [← HO.out]; simp, by show T.Bd B b (t ++ []) w; rw [List.append_nil]; exact HBd.out, Below.refl _ _, Lib.OthersKept.refl _ _ _⟩
  case round =>
    obtain ⟨k, m, hk, rfl, HM, HD, HB, HK⟩ := hrel
    have HEr : Hid (R.Env w0 B wr) := HE.out.next HB.out
    by_cases hlt : k < l.length
    · obtain ⟨x, hx⟩ : ∃ x, l[k]? = some x := ⟨l[k], by simp [hlt]⟩
      obtain ⟨ao', cap', e', hcs⟩ := HR.out
      cases e'
      obtain ⟨bb, off, rfl, hcell⟩ := hcs (by intro h; subst h; simp at hlt)
      obtain ⟨c0, c1, c3, ⟨so, sc, c2, r2⟩, hf, _⟩ := hcell k x hx
      have kk := R.Keeps.of_below HEr.out.bel (Nat.le_refl _)
      replace c0 := kk _ _ _ c0
      replace c1 := kk _ _ _ c1
      replace c2 := kk _ _ _ c2
      replace c3 := kk _ _ _ c3
      clear kk
      have hix := HOk.out x (List.mem_of_getElem? hx)
      have HS := itemsB_drop (c := c) hx
      have HTx : Hid (∀ w1, R.Env w0 B w1 → Calls Tryz.prog 81 #[.agg #[.int .i64 x.kind, .int .i32 x.rune, .slice so x.set.length sc, .string x.name]] w1 fun e w' => e = .returned (.string ⟨(R.itemB x).toArray⟩) ∧ Below w1.heap.size w1 w') := fun w1 h1 => itemText_any w1 x so sc (r2.below h1.bel (Nat.le_refl _)) hf hix h1.tzw
      rw [HS] at HM
      have HM1 : Hid (m ++ ((if (k : Int) = c then R.bar else []) ++ (R.itemB x ++ [32]) ++ R.itemsB (l.drop (k + 1)) (c - (k + 1 : Nat))) = o) := HM
      clear HM HS hx hcell hcs r2 hf hix
      obtain ⟨ib, HIB⟩ : ∃ ib, Hid (R.itemB x = ib) := ⟨_, rfl⟩
      rw [HIB.out] at HTx HM1
      obtain ⟨rest, HRe⟩ : ∃ r, Hid (R.itemsB (l.drop (k + 1)) (c - (k + 1 : Nat)) = r) := ⟨_, rfl⟩
      rw [HRe.out] at HM1
      have HL1 : Hid (((k : Int) = c → t.length + m.length + 2 + ib.length + 1 ≤ 1000000000) ∧ t.length + m.length + ib.length + 1 ≤ 1000000000) := by
        have h1 := congrArg List.length HM1.out
        have h2 := HLen.out
        simp only [List.length_append, List.length_singleton] at h1
        refine ⟨fun hk => ?_, by omega⟩
        rw [if_pos hk] at h1
        simp only [R.bar, List.length_cons, List.length_nil] at h1
        omega
      obtain ⟨xk, xr, xs, xn⟩ := x
      simp only at c0 c1 c2 c3 HTx
      have bW := (Below.refl _ wr).alloc (Nat.le_refl _) (.cells #[.int .i64 xk, .int .i32 xr, .slice so xs.length sc, .string xn] 76)
      have hxW : (wr.alloc (.cells #[.int .i64 xk, .int .i32 xr, .slice so xs.length sc, .string xn] 76)).heap[wr.heap.size]? = some (.cells #[.int .i64 xk, .int .i32 xr, .slice so xs.length sc, .string xn] 76) := heap_alloc_new wr _
      have HDW : Hid (T.Bd B b (t ++ m) (wr.alloc (.cells #[.int .i64 xk, .int .i32 xr, .slice so xs.length sc, .string xn] 76))) := HD.out.below bW
      have HBW : Hid (Below wr.heap.size wr (wr.alloc (.cells #[.int .i64 xk, .int .i32 xr, .slice so xs.length sc, .string xn] 76))) := bW
      have HXW : Hid _ := hxW
      have HNe : Hid (some wr.heap.size ≠ some b) := fun e => by
        have h1 := HD.out.1
        have h2 := Option.some.inj e
        rcases h1 with h | h <;> (have := h.lt; omega)
      have HBN : Hid (B ≤ wr.heap.size) := HEr.out.now
      clear bW hxW
      by_cases hkc : (k : Int) = c
      · subst hkc
        go_wp2_with fail
        refine (tword_any B b _ [124] _ HDW.out (by have := HL1.out.1 (by trivial); simp only [List.length_append, List.length_singleton]; omega)).mono ?_
        generalize wr.alloc (.cells #[.int .i64 xk, .int .i32 xr, .slice so xs.length sc, .string xn] 76) = W at HDW HBW HXW
        rintro e w1 ⟨rfl, d1, b1, k1⟩
        have hx1 := k1 _ _ HXW.out HNe.out (fun c fz h => by cases h)
        have p0 := R.at_box (i := 0) hx1 rfl
        have p1 := R.at_box (i := 1) hx1 rfl
        have p2 := R.at_box (i := 2) hx1 rfl
        have p3 := R.at_box (i := 3) hx1 rfl
        have HD1 : Hid (T.Bd B b ((t ++ m) ++ ([124] ++ [32])) w1) := d1
        have HB1 : Hid (Below B wr w1) := (HBW.out.mono HBN.out).trans b1
        have HK1 : Hid (Lib.OthersKept 5 (some b) wr w1) := (kept_below HBW.out).trans k1
        have HT1 : Hid (Calls Tryz.prog 81 #[.agg #[.int .i64 xk, .int .i32 xr, .slice so xs.length sc, .string xn]] w1 fun e w' => e = .returned (.string ⟨ib.toArray⟩) ∧ Below w1.heap.size w1 w') := by
          exact HTx.out w1 (HEr.out.next HB1.out)
        clear d1 b1 k1 hx1 HXW HDW
        go_wp2_with fail
        refine HT1.out.mono ?_
        rintro e w2 ⟨rfl, b2⟩
        have HD2 := HD1.out.below b2
        have HD2' : Hid (T.Bd B b ((t ++ m) ++ ([124] ++ [32])) w2) := HD2
        have HB2 : Hid (Below B wr w2) := HB1.out.trans (b2.mono (Nat.le_trans HBN.out HB1.out.size))
        have HK2 : Hid (Lib.OthersKept 5 (some b) wr w2) := HK1.out.trans (kept_below b2)
        clear b2 HD2
        go_wp2_with fail
        refine (tword_any B b _ ib _ HD2'.out (by have := HL1.out.1 (by trivial); simp only [List.length_append, List.length_singleton]; omega)).mono ?_
        rintro e w3 ⟨rfl, d3, b3, k3⟩
        have HD3 : Hid (T.Bd B b (((t ++ m) ++ ([124] ++ [32])) ++ (ib ++ [32])) w3) := d3
        have HB3 : Hid (Below B wr w3) := HB2.out.trans b3
        have HK3 : Hid (Lib.OthersKept 5 (some b) wr w3) := HK2.out.trans k3
        clear d3 b3 k3
        go_wp2
        go_roundw
        case rel =>
          refine ⟨k + 1, m ++ R.bar ++ (ib ++ [32]), by omega, by go_num, ?_, ?_, HB.out.trans HB3.out, HK.out.trans HK3.out⟩
          · show _ = _
            rw [HRe.out, ← HM1.out]; simp
          · show T.Bd B b _ w3
            have h := HD3.out
            unfold R.bar
            simp only [List.append_assoc, List.cons_append, List.nil_append] at h ⊢
            exact h
        case measure => simp [intOf]; omega
      · have hkc' : ((k : Int) == c) = false := by simp [hkc]
        go_wp2_with fail
        refine (HTx.out _ (HEr.out.after HBW.out)).mono ?_
        generalize wr.alloc (.cells #[.int .i64 xk, .int .i32 xr, .slice so xs.length sc, .string xn] 76) = W at HDW HBW HXW
        rintro e w2 ⟨rfl, b2⟩
        have HD2' : Hid (T.Bd B b (t ++ m) w2) := HDW.out.below b2
        have HB2 : Hid (Below B wr w2) := (HBW.out.mono HBN.out).trans (b2.mono (Nat.le_trans HBN.out HBW.out.size))
        have HK2 : Hid (Lib.OthersKept 5 (some b) wr w2) := (kept_below HBW.out).trans (kept_below b2)
        clear b2
        go_wp2_with fail
        refine (tword_any B b _ ib _ HD2'.out (by have := HL1.out.2; simp only [List.length_append, List.length_singleton]; omega)).mono ?_
        rintro e w3 ⟨rfl, d3, b3, k3⟩
        have HD3 : Hid (T.Bd B b ((t ++ m) ++ (ib ++ [32])) w3) := d3
        have HB3 : Hid (Below B wr w3) := HB2.out.trans b3
        have HK3 : Hid (Lib.OthersKept 5 (some b) wr w3) := HK2.out.trans k3
        clear d3 b3 k3
        go_wp2
        go_roundw
        case rel =>
          refine ⟨k + 1, m ++ (ib ++ [32]), by omega, by go_num, ?_, ?_, HB.out.trans HB3.out, HK.out.trans HK3.out⟩
          · show _ = _
            rw [HRe.out, ← HM1.out, if_neg hkc]; simp
          · show T.Bd B b _ w3
            rw [← List.append_assoc]
            exact HD3.out
        case measure => simp [intOf]; omega
    · have hke : k = l.length := by omega
      have hm := HM.out
      rw [List.drop_eq_nil_of_le (by omega), R.itemsB] at hm
      by_cases hcl : c = (l.length : Int)
      · have hcl' : (c == (l.length : Int)) = true := by simp [hcl]
        rw [if_pos (by omega)] at hm
        have HM2 : Hid (m ++ R.bar = o) := hm
        clear hm
        go_wp2_with fail
        refine (tword_any B b _ [124] _ HD.out (by
          have h1 := congrArg List.length HM2.out
          have h2 := HLen.out
          simp only [R.bar, List.length_append, List.length_cons, List.length_nil] at h1 ⊢
          omega)).mono ?_
        rintro e w3 ⟨rfl, d3, b3, k3⟩
        go_wp2
        go_end0
        refine ⟨rfl, ?_, HB.out.trans b3, HK.out.trans k3⟩
        rw [← HM2.out]
        unfold R.bar
        simp only [List.append_assoc, List.cons_append, List.nil_append] at d3 ⊢
        exact d3
      · have hcl' : (c == (l.length : Int)) = false := by simp [hcl]
        rw [if_neg (by omega), List.append_nil] at hm
        go_wp2
        go_end0
        refine ⟨rfl, ?_, HB.out, HK.out⟩
        rw [← hm]
        exact HD.out

end Go.Proofs.YtajbcgobfkaahaaGreatDoor

/-
  How sides and parts are written: package rulesyn's words.
-/
namespace Go.Proofs.YtajbcgobfkaahaaGreatDoor
open Go.RowKit
set_option maxRecDepth 20000
set_option linter.unusedSimpArgs false
set_option linter.unusedVariables false

theorem items_ok {l : List R.Item} (h : R.itemsE l = 0) : l.length ≤ 20 ∧ ∀ x ∈ l, R.itemE x = 0 := R.itemsE_zero.1 h

/-- one more word -/
theorem R.Told.go {B b : Nat} {l m : List UInt8} {w w1 w2 : World} {e e2 : Ending} (h1 : Below B w w1) (k1 : Lib.OthersKept 5 (some b) w w1) (h : R.Told B b m w1 e2 w2) : T.Bd B b m w2 ∧ Below B w w2 ∧ Lib.OthersKept 5 (some b) w w2 := ⟨h.2.1, h1.trans h.2.2.1, k1.trans h.2.2.2⟩

set_option maxHeartbeats 8000000 in
theorem tellSide_any (w0 : World) (B b : Nat) (w : World) (v : Value) (s : R.Side) (t : List UInt8) (E : R.Env w0 B w) (R0 : R.SdIs w0 v s) (hok : ∃ m, R.sideE s m = 0) (hb : T.Bd B b t w) (hlen : t.length + (R.sideB s).length ≤ 1000000000) :
    Calls Tryz.prog 36 #[v, .func (.func 16) #[] #[.pointer (some ⟨b, 0, none⟩)]] w (R.Told B b (t ++ R.sideB s) w) := by
  have eg : ∀ args w, (callFunc 16 args).run Tryz.prog w = .ok (.enter 16 args) w := enters_of Tryz.func16 (by kernel_rfl) rfl
  obtain ⟨m, hm⟩ := hok
  obtain ⟨zb, zs, za, hc1, hc2⟩ := R.sideE_zero hm
  obtain ⟨bo, bc, so, sc, ao, ac, rfl, hB, hS, hA, hcu⟩ := R0
  obtain ⟨st, fi, be, sr, af, cu⟩ := s
  simp only at zb zs za hc1 hc2 hB hS hA hcu
  have HIb : Hid (∀ w1 t, R.Env w0 B w1 → T.Bd B b t w1 → t.length + (R.itemsB be (-1)).length ≤ 1000000000 → Calls Tryz.prog 58 #[.slice bo be.length bc, .int .i64 (-1), .func (.func 16) #[] #[.pointer (some ⟨b, 0, none⟩)]] w1 (R.Told B b (t ++ R.itemsB be (-1)) w1)) := fun w1 t e1 b1 h1 => tellItems_any w0 B b w1 _ be (-1) t e1 hB (items_ok zb).1 (items_ok zb).2 b1 (by omega) h1
  have HIs : Hid (∀ w1 t, R.Env w0 B w1 → T.Bd B b t w1 → t.length + (R.itemsB sr cu).length ≤ 1000000000 → Calls Tryz.prog 58 #[.slice so sr.length sc, .int .i64 cu, .func (.func 16) #[] #[.pointer (some ⟨b, 0, none⟩)]] w1 (R.Told B b (t ++ R.itemsB sr cu) w1)) := fun w1 t e1 b1 h1 => tellItems_any w0 B b w1 _ sr cu t e1 hS (items_ok zs).1 (items_ok zs).2 b1 hc1 h1
  have HIa : Hid (∀ w1 t, R.Env w0 B w1 → T.Bd B b t w1 → t.length + (R.itemsB af (-1)).length ≤ 1000000000 → Calls Tryz.prog 58 #[.slice ao af.length ac, .int .i64 (-1), .func (.func 16) #[] #[.pointer (some ⟨b, 0, none⟩)]] w1 (R.Told B b (t ++ R.itemsB af (-1)) w1)) := fun w1 t e1 b1 h1 => tellItems_any w0 B b w1 _ af (-1) t e1 hA (items_ok za).1 (items_ok za).2 b1 (by omega) h1
  obtain ⟨tb, HTb⟩ : ∃ x, Hid (R.itemsB be (-1) = x) := ⟨_, rfl⟩
  obtain ⟨ts, HTs⟩ : ∃ x, Hid (R.itemsB sr cu = x) := ⟨_, rfl⟩
  obtain ⟨ta, HTa⟩ : ∃ x, Hid (R.itemsB af (-1) = x) := ⟨_, rfl⟩
  have HSd : Hid (R.sideB ⟨st, fi, be, sr, af, cu⟩ = (if st = true then [94, 32] else []) ++ tb ++ (if st = true ∨ 0 < be.length then [123, 32] else []) ++ ts ++ (if fi = true ∨ 0 < af.length then [125, 32] else []) ++ ta ++ (if fi = true then [36, 32] else [])) := by
    show _ = _
    rw [← HTb.out, ← HTs.out, ← HTa.out]; rfl
  rw [HTb.out] at HIb
  rw [HTs.out] at HIs
  rw [HTa.out] at HIa
  have hsd := HSd.out
  rw [hsd] at hlen ⊢
  have HLen : Hid (t.length + ((if st = true then [94, 32] else []) ++ tb ++ (if st = true ∨ 0 < be.length then [123, 32] else []) ++ ts ++ (if fi = true ∨ 0 < af.length then [125, 32] else []) ++ ta ++ (if fi = true then [36, 32] else []) : List UInt8).length ≤ 1000000000) := hlen
  have HE : Hid (R.Env w0 B w) := E
  have HBd : Hid (T.Bd B b t w) := hb
  have HA : Hid (∀ o, Below w.heap.size w (w.alloc o)) := fun o => (Below.refl _ w).alloc (Nat.le_refl _) o
  have HNe : Hid (some w.heap.size ≠ some b) := fun e => by
    have h2 := Option.some.inj e
    rcases hb.1 with h | h <;> (have := h.lt; omega)
  have HBN : Hid (B ≤ w.heap.size) := E.now
  clear hB hS hA hm zb zs za E hb hlen hsd HSd
  cases st with
  | true =>
    cases fi with
    | true =>
      have HL : Hid (t.length + 2 + tb.length + 2 + ts.length + 2 + ta.length + 2 ≤ 1000000000) := by
        have h := HLen.out
        simp at h
        show _ ≤ _
        omega
      go_enter Tryz.func36, Tryz.ntmps36
      go_wp2_with fail
      have HBW : Hid (Below w.heap.size w (w.alloc (.cells #[.bool true, .bool true, .slice bo be.length bc, .slice so sr.length sc, .slice ao af.length ac, .int .i64 cu] 47))) := HA.out _
      have HXW : Hid ((w.alloc (.cells #[.bool true, .bool true, .slice bo be.length bc, .slice so sr.length sc, .slice ao af.length ac, .int .i64 cu] 47)).heap[w.heap.size]? = some (.cells #[.bool true, .bool true, .slice bo be.length bc, .slice so sr.length sc, .slice ao af.length ac, .int .i64 cu] 47)) := heap_alloc_new w _
      have HD0 : Hid (T.Bd B b t (w.alloc (.cells #[.bool true, .bool true, .slice bo be.length bc, .slice so sr.length sc, .slice ao af.length ac, .int .i64 cu] 47))) := HBd.out.below HBW.out
      have HE0 : Hid (R.Env w0 B (w.alloc (.cells #[.bool true, .bool true, .slice bo be.length bc, .slice so sr.length sc, .slice ao af.length ac, .int .i64 cu] 47))) := HE.out.after HBW.out
      refine (tword_any B b _ [94] _ HD0.out (by have := HL.out; (try simp only [List.length_append, List.length_cons, List.length_nil]); omega)).mono ?_
      generalize w.alloc (.cells #[.bool true, .bool true, .slice bo be.length bc, .slice so sr.length sc, .slice ao af.length ac, .int .i64 cu] 47) = W at HBW HXW HD0 HE0
      rintro e w1 ⟨rfl, d1, b1, k1⟩
      have HD1 : Hid (T.Bd B b (t ++ ([94] ++ [32])) w1) := d1
      have HB1 : Hid (Below B W w1) := b1
      have HK1 : Hid (Lib.OthersKept 5 (some b) W w1) := k1
      have HE1 : Hid (R.Env w0 B w1) := HE0.out.next b1
      have hx1 := HK1.out _ _ HXW.out HNe.out (fun c fz h => by cases h)
      have p1_0 : w1.cell? ⟨w.heap.size, 0, none⟩ = some (.bool true) := R.at_box hx1 rfl
      have p1_1 : w1.cell? ⟨w.heap.size, 1, none⟩ = some (.bool true) := R.at_box hx1 rfl
      have p1_2 : w1.cell? ⟨w.heap.size, 2, none⟩ = some (.slice bo be.length bc) := R.at_box hx1 rfl
      have p1_3 : w1.cell? ⟨w.heap.size, 3, none⟩ = some (.slice so sr.length sc) := R.at_box hx1 rfl
      have p1_4 : w1.cell? ⟨w.heap.size, 4, none⟩ = some (.slice ao af.length ac) := R.at_box hx1 rfl
      have p1_5 : w1.cell? ⟨w.heap.size, 5, none⟩ = some (.int .i64 cu) := R.at_box hx1 rfl
      clear d1 b1 k1 hx1
      go_wp2_with fail
      refine (HIb.out _ _ HE1.out HD1.out (by have := HL.out; (try simp only [List.length_append, List.length_cons, List.length_nil]); omega)).mono ?_
      rintro e w2 ⟨rfl, d2, b2, k2⟩
      have HD2 : Hid (T.Bd B b ((t ++ ([94] ++ [32])) ++ tb) w2) := d2
      have HB2 : Hid (Below B W w2) := HB1.out.trans b2
      have HK2 : Hid (Lib.OthersKept 5 (some b) W w2) := HK1.out.trans k2
      have HE2 : Hid (R.Env w0 B w2) := HE1.out.next b2
      have hx2 := HK2.out _ _ HXW.out HNe.out (fun c fz h => by cases h)
      have p2_0 : w2.cell? ⟨w.heap.size, 0, none⟩ = some (.bool true) := R.at_box hx2 rfl
      have p2_1 : w2.cell? ⟨w.heap.size, 1, none⟩ = some (.bool true) := R.at_box hx2 rfl
      have p2_2 : w2.cell? ⟨w.heap.size, 2, none⟩ = some (.slice bo be.length bc) := R.at_box hx2 rfl
      have p2_3 : w2.cell? ⟨w.heap.size, 3, none⟩ = some (.slice so sr.length sc) := R.at_box hx2 rfl
      have p2_4 : w2.cell? ⟨w.heap.size, 4, none⟩ = some (.slice ao af.length ac) := R.at_box hx2 rfl
      have p2_5 : w2.cell? ⟨w.heap.size, 5, none⟩ = some (.int .i64 cu) := R.at_box hx2 rfl
      clear d2 b2 k2 hx2 p1_0 p1_1 p1_2 p1_3 p1_4 p1_5 HE1
      go_wp2_with fail
      refine (tword_any B b _ [123] _ HD2.out (by have := HL.out; (try simp only [List.length_append, List.length_cons, List.length_nil]); omega)).mono ?_
      rintro e w3 ⟨rfl, d3, b3, k3⟩
      have HD3 : Hid (T.Bd B b (((t ++ ([94] ++ [32])) ++ tb) ++ ([123] ++ [32])) w3) := d3
      have HB3 : Hid (Below B W w3) := HB2.out.trans b3
      have HK3 : Hid (Lib.OthersKept 5 (some b) W w3) := HK2.out.trans k3
      have HE3 : Hid (R.Env w0 B w3) := HE2.out.next b3
      have hx3 := HK3.out _ _ HXW.out HNe.out (fun c fz h => by cases h)
      have p3_0 : w3.cell? ⟨w.heap.size, 0, none⟩ = some (.bool true) := R.at_box hx3 rfl
      have p3_1 : w3.cell? ⟨w.heap.size, 1, none⟩ = some (.bool true) := R.at_box hx3 rfl
      have p3_2 : w3.cell? ⟨w.heap.size, 2, none⟩ = some (.slice bo be.length bc) := R.at_box hx3 rfl
      have p3_3 : w3.cell? ⟨w.heap.size, 3, none⟩ = some (.slice so sr.length sc) := R.at_box hx3 rfl
      have p3_4 : w3.cell? ⟨w.heap.size, 4, none⟩ = some (.slice ao af.length ac) := R.at_box hx3 rfl
      have p3_5 : w3.cell? ⟨w.heap.size, 5, none⟩ = some (.int .i64 cu) := R.at_box hx3 rfl
      clear d3 b3 k3 hx3 p2_0 p2_1 p2_2 p2_3 p2_4 p2_5 HE2
      go_wp2_with fail
      refine (HIs.out _ _ HE3.out HD3.out (by have := HL.out; (try simp only [List.length_append, List.length_cons, List.length_nil]); omega)).mono ?_
      rintro e w4 ⟨rfl, d4, b4, k4⟩
      have HD4 : Hid (T.Bd B b ((((t ++ ([94] ++ [32])) ++ tb) ++ ([123] ++ [32])) ++ ts) w4) := d4
      have HB4 : Hid (Below B W w4) := HB3.out.trans b4
      have HK4 : Hid (Lib.OthersKept 5 (some b) W w4) := HK3.out.trans k4
      have HE4 : Hid (R.Env w0 B w4) := HE3.out.next b4
      have hx4 := HK4.out _ _ HXW.out HNe.out (fun c fz h => by cases h)
      have p4_0 : w4.cell? ⟨w.heap.size, 0, none⟩ = some (.bool true) := R.at_box hx4 rfl
      have p4_1 : w4.cell? ⟨w.heap.size, 1, none⟩ = some (.bool true) := R.at_box hx4 rfl
      have p4_2 : w4.cell? ⟨w.heap.size, 2, none⟩ = some (.slice bo be.length bc) := R.at_box hx4 rfl
      have p4_3 : w4.cell? ⟨w.heap.size, 3, none⟩ = some (.slice so sr.length sc) := R.at_box hx4 rfl
      have p4_4 : w4.cell? ⟨w.heap.size, 4, none⟩ = some (.slice ao af.length ac) := R.at_box hx4 rfl
      have p4_5 : w4.cell? ⟨w.heap.size, 5, none⟩ = some (.int .i64 cu) := R.at_box hx4 rfl
      clear d4 b4 k4 hx4 p3_0 p3_1 p3_2 p3_3 p3_4 p3_5 HE3
      go_wp2_with fail
      refine (tword_any B b _ [125] _ HD4.out (by have := HL.out; (try simp only [List.length_append, List.length_cons, List.length_nil]); omega)).mono ?_
      rintro e w5 ⟨rfl, d5, b5, k5⟩
      have HD5 : Hid (T.Bd B b (((((t ++ ([94] ++ [32])) ++ tb) ++ ([123] ++ [32])) ++ ts) ++ ([125] ++ [32])) w5) := d5
      have HB5 : Hid (Below B W w5) := HB4.out.trans b5
      have HK5 : Hid (Lib.OthersKept 5 (some b) W w5) := HK4.out.trans k5
      have HE5 : Hid (R.Env w0 B w5) := HE4.out.next b5
      have hx5 := HK5.out _ _ HXW.out HNe.out (fun c fz h => by cases h)
      have p5_0 : w5.cell? ⟨w.heap.size, 0, none⟩ = some (.bool true) := R.at_box hx5 rfl
      have p5_1 : w5.cell? ⟨w.heap.size, 1, none⟩ = some (.bool true) := R.at_box hx5 rfl
      have p5_2 : w5.cell? ⟨w.heap.size, 2, none⟩ = some (.slice bo be.length bc) := R.at_box hx5 rfl
      have p5_3 : w5.cell? ⟨w.heap.size, 3, none⟩ = some (.slice so sr.length sc) := R.at_box hx5 rfl
      have p5_4 : w5.cell? ⟨w.heap.size, 4, none⟩ = some (.slice ao af.length ac) := R.at_box hx5 rfl
      have p5_5 : w5.cell? ⟨w.heap.size, 5, none⟩ = some (.int .i64 cu) := R.at_box hx5 rfl
      clear d5 b5 k5 hx5 p4_0 p4_1 p4_2 p4_3 p4_4 p4_5 HE4
      go_wp2_with fail
      refine (HIa.out _ _ HE5.out HD5.out (by have := HL.out; (try simp only [List.length_append, List.length_cons, List.length_nil]); omega)).mono ?_
      rintro e w6 ⟨rfl, d6, b6, k6⟩
      have HD6 : Hid (T.Bd B b ((((((t ++ ([94] ++ [32])) ++ tb) ++ ([123] ++ [32])) ++ ts) ++ ([125] ++ [32])) ++ ta) w6) := d6
      have HB6 : Hid (Below B W w6) := HB5.out.trans b6
      have HK6 : Hid (Lib.OthersKept 5 (some b) W w6) := HK5.out.trans k6
      have HE6 : Hid (R.Env w0 B w6) := HE5.out.next b6
      have hx6 := HK6.out _ _ HXW.out HNe.out (fun c fz h => by cases h)
      have p6_0 : w6.cell? ⟨w.heap.size, 0, none⟩ = some (.bool true) := R.at_box hx6 rfl
      have p6_1 : w6.cell? ⟨w.heap.size, 1, none⟩ = some (.bool true) := R.at_box hx6 rfl
      have p6_2 : w6.cell? ⟨w.heap.size, 2, none⟩ = some (.slice bo be.length bc) := R.at_box hx6 rfl
      have p6_3 : w6.cell? ⟨w.heap.size, 3, none⟩ = some (.slice so sr.length sc) := R.at_box hx6 rfl
      have p6_4 : w6.cell? ⟨w.heap.size, 4, none⟩ = some (.slice ao af.length ac) := R.at_box hx6 rfl
      have p6_5 : w6.cell? ⟨w.heap.size, 5, none⟩ = some (.int .i64 cu) := R.at_box hx6 rfl
      clear d6 b6 k6 hx6 p5_0 p5_1 p5_2 p5_3 p5_4 p5_5 HE5
      go_wp2_with fail
      refine (tword_any B b _ [36] _ HD6.out (by have := HL.out; (try simp only [List.length_append, List.length_cons, List.length_nil]); omega)).mono ?_
      rintro e w7 ⟨rfl, d7, b7, k7⟩
      have HD7 : Hid (T.Bd B b (((((((t ++ ([94] ++ [32])) ++ tb) ++ ([123] ++ [32])) ++ ts) ++ ([125] ++ [32])) ++ ta) ++ ([36] ++ [32])) w7) := d7
      have HB7 : Hid (Below B W w7) := HB6.out.trans b7
      have HK7 : Hid (Lib.OthersKept 5 (some b) W w7) := HK6.out.trans k7
      have HE7 : Hid (R.Env w0 B w7) := HE6.out.next b7
      have hx7 := HK7.out _ _ HXW.out HNe.out (fun c fz h => by cases h)
      have p7_0 : w7.cell? ⟨w.heap.size, 0, none⟩ = some (.bool true) := R.at_box hx7 rfl
      have p7_1 : w7.cell? ⟨w.heap.size, 1, none⟩ = some (.bool true) := R.at_box hx7 rfl
      have p7_2 : w7.cell? ⟨w.heap.size, 2, none⟩ = some (.slice bo be.length bc) := R.at_box hx7 rfl
      have p7_3 : w7.cell? ⟨w.heap.size, 3, none⟩ = some (.slice so sr.length sc) := R.at_box hx7 rfl
      have p7_4 : w7.cell? ⟨w.heap.size, 4, none⟩ = some (.slice ao af.length ac) := R.at_box hx7 rfl
      have p7_5 : w7.cell? ⟨w.heap.size, 5, none⟩ = some (.int .i64 cu) := R.at_box hx7 rfl
      clear d7 b7 k7 hx7 p6_0 p6_1 p6_2 p6_3 p6_4 p6_5 HE6
      go_wp2
      go_end0
      refine ⟨rfl, ?_, (HBW.out.mono HBN.out).trans HB7.out, (kept_below HBW.out).trans HK7.out⟩
      have h := HD7.out
      simp only [List.append_assoc, List.cons_append, List.nil_append] at h
      simpa [List.append_assoc] using h
    | false =>
      by_cases ha : 0 < af.length
      · have ha2 : (0 : Int) < (af.length : Int) := by omega
        rw [if_pos (c := _ ∨ 0 < af.length) (Or.inr ha)] at HLen
        rw [if_pos (c := _ ∨ 0 < af.length) (Or.inr ha)]
        have HL : Hid (t.length + 2 + tb.length + 2 + ts.length + 2 + ta.length ≤ 1000000000) := by
          have h := HLen.out
          simp at h
          show _ ≤ _
          omega
        go_enter Tryz.func36, Tryz.ntmps36
        go_wp2_with fail
        have HBW : Hid (Below w.heap.size w (w.alloc (.cells #[.bool true, .bool false, .slice bo be.length bc, .slice so sr.length sc, .slice ao af.length ac, .int .i64 cu] 47))) := HA.out _
        have HXW : Hid ((w.alloc (.cells #[.bool true, .bool false, .slice bo be.length bc, .slice so sr.length sc, .slice ao af.length ac, .int .i64 cu] 47)).heap[w.heap.size]? = some (.cells #[.bool true, .bool false, .slice bo be.length bc, .slice so sr.length sc, .slice ao af.length ac, .int .i64 cu] 47)) := heap_alloc_new w _
        have HD0 : Hid (T.Bd B b t (w.alloc (.cells #[.bool true, .bool false, .slice bo be.length bc, .slice so sr.length sc, .slice ao af.length ac, .int .i64 cu] 47))) := HBd.out.below HBW.out
        have HE0 : Hid (R.Env w0 B (w.alloc (.cells #[.bool true, .bool false, .slice bo be.length bc, .slice so sr.length sc, .slice ao af.length ac, .int .i64 cu] 47))) := HE.out.after HBW.out
        refine (tword_any B b _ [94] _ HD0.out (by have := HL.out; (try simp only [List.length_append, List.length_cons, List.length_nil]); omega)).mono ?_
        generalize w.alloc (.cells #[.bool true, .bool false, .slice bo be.length bc, .slice so sr.length sc, .slice ao af.length ac, .int .i64 cu] 47) = W at HBW HXW HD0 HE0
        rintro e w1 ⟨rfl, d1, b1, k1⟩
        have HD1 : Hid (T.Bd B b (t ++ ([94] ++ [32])) w1) := d1
        have HB1 : Hid (Below B W w1) := b1
        have HK1 : Hid (Lib.OthersKept 5 (some b) W w1) := k1
        have HE1 : Hid (R.Env w0 B w1) := HE0.out.next b1
        have hx1 := HK1.out _ _ HXW.out HNe.out (fun c fz h => by cases h)
        have p1_0 : w1.cell? ⟨w.heap.size, 0, none⟩ = some (.bool true) := R.at_box hx1 rfl
        have p1_1 : w1.cell? ⟨w.heap.size, 1, none⟩ = some (.bool false) := R.at_box hx1 rfl
        have p1_2 : w1.cell? ⟨w.heap.size, 2, none⟩ = some (.slice bo be.length bc) := R.at_box hx1 rfl
        have p1_3 : w1.cell? ⟨w.heap.size, 3, none⟩ = some (.slice so sr.length sc) := R.at_box hx1 rfl
        have p1_4 : w1.cell? ⟨w.heap.size, 4, none⟩ = some (.slice ao af.length ac) := R.at_box hx1 rfl
        have p1_5 : w1.cell? ⟨w.heap.size, 5, none⟩ = some (.int .i64 cu) := R.at_box hx1 rfl
        clear d1 b1 k1 hx1
        go_wp2_with fail
        refine (HIb.out _ _ HE1.out HD1.out (by have := HL.out; (try simp only [List.length_append, List.length_cons, List.length_nil]); omega)).mono ?_
        rintro e w2 ⟨rfl, d2, b2, k2⟩
        have HD2 : Hid (T.Bd B b ((t ++ ([94] ++ [32])) ++ tb) w2) := d2
        have HB2 : Hid (Below B W w2) := HB1.out.trans b2
        have HK2 : Hid (Lib.OthersKept 5 (some b) W w2) := HK1.out.trans k2
        have HE2 : Hid (R.Env w0 B w2) := HE1.out.next b2
        have hx2 := HK2.out _ _ HXW.out HNe.out (fun c fz h => by cases h)
        have p2_0 : w2.cell? ⟨w.heap.size, 0, none⟩ = some (.bool true) := R.at_box hx2 rfl
        have p2_1 : w2.cell? ⟨w.heap.size, 1, none⟩ = some (.bool false) := R.at_box hx2 rfl
        have p2_2 : w2.cell? ⟨w.heap.size, 2, none⟩ = some (.slice bo be.length bc) := R.at_box hx2 rfl
        have p2_3 : w2.cell? ⟨w.heap.size, 3, none⟩ = some (.slice so sr.length sc) := R.at_box hx2 rfl
        have p2_4 : w2.cell? ⟨w.heap.size, 4, none⟩ = some (.slice ao af.length ac) := R.at_box hx2 rfl
        have p2_5 : w2.cell? ⟨w.heap.size, 5, none⟩ = some (.int .i64 cu) := R.at_box hx2 rfl
        clear d2 b2 k2 hx2 p1_0 p1_1 p1_2 p1_3 p1_4 p1_5 HE1
        go_wp2_with fail
        refine (tword_any B b _ [123] _ HD2.out (by have := HL.out; (try simp only [List.length_append, List.length_cons, List.length_nil]); omega)).mono ?_
        rintro e w3 ⟨rfl, d3, b3, k3⟩
        have HD3 : Hid (T.Bd B b (((t ++ ([94] ++ [32])) ++ tb) ++ ([123] ++ [32])) w3) := d3
        have HB3 : Hid (Below B W w3) := HB2.out.trans b3
        have HK3 : Hid (Lib.OthersKept 5 (some b) W w3) := HK2.out.trans k3
        have HE3 : Hid (R.Env w0 B w3) := HE2.out.next b3
        have hx3 := HK3.out _ _ HXW.out HNe.out (fun c fz h => by cases h)
        have p3_0 : w3.cell? ⟨w.heap.size, 0, none⟩ = some (.bool true) := R.at_box hx3 rfl
        have p3_1 : w3.cell? ⟨w.heap.size, 1, none⟩ = some (.bool false) := R.at_box hx3 rfl
        have p3_2 : w3.cell? ⟨w.heap.size, 2, none⟩ = some (.slice bo be.length bc) := R.at_box hx3 rfl
        have p3_3 : w3.cell? ⟨w.heap.size, 3, none⟩ = some (.slice so sr.length sc) := R.at_box hx3 rfl
        have p3_4 : w3.cell? ⟨w.heap.size, 4, none⟩ = some (.slice ao af.length ac) := R.at_box hx3 rfl
        have p3_5 : w3.cell? ⟨w.heap.size, 5, none⟩ = some (.int .i64 cu) := R.at_box hx3 rfl
        clear d3 b3 k3 hx3 p2_0 p2_1 p2_2 p2_3 p2_4 p2_5 HE2
        go_wp2_with fail
        refine (HIs.out _ _ HE3.out HD3.out (by have := HL.out; (try simp only [List.length_append, List.length_cons, List.length_nil]); omega)).mono ?_
        rintro e w4 ⟨rfl, d4, b4, k4⟩
        have HD4 : Hid (T.Bd B b ((((t ++ ([94] ++ [32])) ++ tb) ++ ([123] ++ [32])) ++ ts) w4) := d4
        have HB4 : Hid (Below B W w4) := HB3.out.trans b4
        have HK4 : Hid (Lib.OthersKept 5 (some b) W w4) := HK3.out.trans k4
        have HE4 : Hid (R.Env w0 B w4) := HE3.out.next b4
        have hx4 := HK4.out _ _ HXW.out HNe.out (fun c fz h => by cases h)
        have p4_0 : w4.cell? ⟨w.heap.size, 0, none⟩ = some (.bool true) := R.at_box hx4 rfl
        have p4_1 : w4.cell? ⟨w.heap.size, 1, none⟩ = some (.bool false) := R.at_box hx4 rfl
        have p4_2 : w4.cell? ⟨w.heap.size, 2, none⟩ = some (.slice bo be.length bc) := R.at_box hx4 rfl
        have p4_3 : w4.cell? ⟨w.heap.size, 3, none⟩ = some (.slice so sr.length sc) := R.at_box hx4 rfl
        have p4_4 : w4.cell? ⟨w.heap.size, 4, none⟩ = some (.slice ao af.length ac) := R.at_box hx4 rfl
        have p4_5 : w4.cell? ⟨w.heap.size, 5, none⟩ = some (.int .i64 cu) := R.at_box hx4 rfl
        clear d4 b4 k4 hx4 p3_0 p3_1 p3_2 p3_3 p3_4 p3_5 HE3
        go_wp2_with fail
        refine (tword_any B b _ [125] _ HD4.out (by have := HL.out; (try simp only [List.length_append, List.length_cons, List.length_nil]); omega)).mono ?_
        rintro e w5 ⟨rfl, d5, b5, k5⟩
        have HD5 : Hid (T.Bd B b (((((t ++ ([94] ++ [32])) ++ tb) ++ ([123] ++ [32])) ++ ts) ++ ([125] ++ [32])) w5) := d5
        have HB5 : Hid (Below B W w5) := HB4.out.trans b5
        have HK5 : Hid (Lib.OthersKept 5 (some b) W w5) := HK4.out.trans k5
        have HE5 : Hid (R.Env w0 B w5) := HE4.out.next b5
        have hx5 := HK5.out _ _ HXW.out HNe.out (fun c fz h => by cases h)
        have p5_0 : w5.cell? ⟨w.heap.size, 0, none⟩ = some (.bool true) := R.at_box hx5 rfl
        have p5_1 : w5.cell? ⟨w.heap.size, 1, none⟩ = some (.bool false) := R.at_box hx5 rfl
        have p5_2 : w5.cell? ⟨w.heap.size, 2, none⟩ = some (.slice bo be.length bc) := R.at_box hx5 rfl
        have p5_3 : w5.cell? ⟨w.heap.size, 3, none⟩ = some (.slice so sr.length sc) := R.at_box hx5 rfl
        have p5_4 : w5.cell? ⟨w.heap.size, 4, none⟩ = some (.slice ao af.length ac) := R.at_box hx5 rfl
        have p5_5 : w5.cell? ⟨w.heap.size, 5, none⟩ = some (.int .i64 cu) := R.at_box hx5 rfl
        clear d5 b5 k5 hx5 p4_0 p4_1 p4_2 p4_3 p4_4 p4_5 HE4
        go_wp2_with fail
        refine (HIa.out _ _ HE5.out HD5.out (by have := HL.out; (try simp only [List.length_append, List.length_cons, List.length_nil]); omega)).mono ?_
        rintro e w6 ⟨rfl, d6, b6, k6⟩
        have HD6 : Hid (T.Bd B b ((((((t ++ ([94] ++ [32])) ++ tb) ++ ([123] ++ [32])) ++ ts) ++ ([125] ++ [32])) ++ ta) w6) := d6
        have HB6 : Hid (Below B W w6) := HB5.out.trans b6
        have HK6 : Hid (Lib.OthersKept 5 (some b) W w6) := HK5.out.trans k6
        have HE6 : Hid (R.Env w0 B w6) := HE5.out.next b6
        have hx6 := HK6.out _ _ HXW.out HNe.out (fun c fz h => by cases h)
        have p6_0 : w6.cell? ⟨w.heap.size, 0, none⟩ = some (.bool true) := R.at_box hx6 rfl
        have p6_1 : w6.cell? ⟨w.heap.size, 1, none⟩ = some (.bool false) := R.at_box hx6 rfl
        have p6_2 : w6.cell? ⟨w.heap.size, 2, none⟩ = some (.slice bo be.length bc) := R.at_box hx6 rfl
        have p6_3 : w6.cell? ⟨w.heap.size, 3, none⟩ = some (.slice so sr.length sc) := R.at_box hx6 rfl
        have p6_4 : w6.cell? ⟨w.heap.size, 4, none⟩ = some (.slice ao af.length ac) := R.at_box hx6 rfl
        have p6_5 : w6.cell? ⟨w.heap.size, 5, none⟩ = some (.int .i64 cu) := R.at_box hx6 rfl
        clear d6 b6 k6 hx6 p5_0 p5_1 p5_2 p5_3 p5_4 p5_5 HE5
        go_wp2
        go_end0
        refine ⟨rfl, ?_, (HBW.out.mono HBN.out).trans HB6.out, (kept_below HBW.out).trans HK6.out⟩
        have h := HD6.out
        simp only [List.append_assoc, List.cons_append, List.nil_append] at h
        simpa [List.append_assoc] using h
      · have ha2 : ¬ (0 : Int) < (af.length : Int) := by omega
        rw [if_neg (c := _ ∨ 0 < af.length) (by rintro (h | h); cases h; omega)] at HLen
        rw [if_neg (c := _ ∨ 0 < af.length) (by rintro (h | h); cases h; omega)]
        have HL : Hid (t.length + 2 + tb.length + 2 + ts.length + ta.length ≤ 1000000000) := by
          have h := HLen.out
          simp at h
          show _ ≤ _
          omega
        go_enter Tryz.func36, Tryz.ntmps36
        go_wp2_with fail
        have HBW : Hid (Below w.heap.size w (w.alloc (.cells #[.bool true, .bool false, .slice bo be.length bc, .slice so sr.length sc, .slice ao af.length ac, .int .i64 cu] 47))) := HA.out _
        have HXW : Hid ((w.alloc (.cells #[.bool true, .bool false, .slice bo be.length bc, .slice so sr.length sc, .slice ao af.length ac, .int .i64 cu] 47)).heap[w.heap.size]? = some (.cells #[.bool true, .bool false, .slice bo be.length bc, .slice so sr.length sc, .slice ao af.length ac, .int .i64 cu] 47)) := heap_alloc_new w _
        have HD0 : Hid (T.Bd B b t (w.alloc (.cells #[.bool true, .bool false, .slice bo be.length bc, .slice so sr.length sc, .slice ao af.length ac, .int .i64 cu] 47))) := HBd.out.below HBW.out
        have HE0 : Hid (R.Env w0 B (w.alloc (.cells #[.bool true, .bool false, .slice bo be.length bc, .slice so sr.length sc, .slice ao af.length ac, .int .i64 cu] 47))) := HE.out.after HBW.out
        refine (tword_any B b _ [94] _ HD0.out (by have := HL.out; (try simp only [List.length_append, List.length_cons, List.length_nil]); omega)).mono ?_
        generalize w.alloc (.cells #[.bool true, .bool false, .slice bo be.length bc, .slice so sr.length sc, .slice ao af.length ac, .int .i64 cu] 47) = W at HBW HXW HD0 HE0
        rintro e w1 ⟨rfl, d1, b1, k1⟩
        have HD1 : Hid (T.Bd B b (t ++ ([94] ++ [32])) w1) := d1
        have HB1 : Hid (Below B W w1) := b1
        have HK1 : Hid (Lib.OthersKept 5 (some b) W w1) := k1
        have HE1 : Hid (R.Env w0 B w1) := HE0.out.next b1
        have hx1 := HK1.out _ _ HXW.out HNe.out (fun c fz h => by cases h)
        have p1_0 : w1.cell? ⟨w.heap.size, 0, none⟩ = some (.bool true) := R.at_box hx1 rfl
        have p1_1 : w1.cell? ⟨w.heap.size, 1, none⟩ = some (.bool false) := R.at_box hx1 rfl
        have p1_2 : w1.cell? ⟨w.heap.size, 2, none⟩ = some (.slice bo be.length bc) := R.at_box hx1 rfl
        have p1_3 : w1.cell? ⟨w.heap.size, 3, none⟩ = some (.slice so sr.length sc) := R.at_box hx1 rfl
        have p1_4 : w1.cell? ⟨w.heap.size, 4, none⟩ = some (.slice ao af.length ac) := R.at_box hx1 rfl
        have p1_5 : w1.cell? ⟨w.heap.size, 5, none⟩ = some (.int .i64 cu) := R.at_box hx1 rfl
        clear d1 b1 k1 hx1
        go_wp2_with fail
        refine (HIb.out _ _ HE1.out HD1.out (by have := HL.out; (try simp only [List.length_append, List.length_cons, List.length_nil]); omega)).mono ?_
        rintro e w2 ⟨rfl, d2, b2, k2⟩
        have HD2 : Hid (T.Bd B b ((t ++ ([94] ++ [32])) ++ tb) w2) := d2
        have HB2 : Hid (Below B W w2) := HB1.out.trans b2
        have HK2 : Hid (Lib.OthersKept 5 (some b) W w2) := HK1.out.trans k2
        have HE2 : Hid (R.Env w0 B w2) := HE1.out.next b2
        have hx2 := HK2.out _ _ HXW.out HNe.out (fun c fz h => by cases h)
        have p2_0 : w2.cell? ⟨w.heap.size, 0, none⟩ = some (.bool true) := R.at_box hx2 rfl
        have p2_1 : w2.cell? ⟨w.heap.size, 1, none⟩ = some (.bool false) := R.at_box hx2 rfl
        have p2_2 : w2.cell? ⟨w.heap.size, 2, none⟩ = some (.slice bo be.length bc) := R.at_box hx2 rfl
        have p2_3 : w2.cell? ⟨w.heap.size, 3, none⟩ = some (.slice so sr.length sc) := R.at_box hx2 rfl
        have p2_4 : w2.cell? ⟨w.heap.size, 4, none⟩ = some (.slice ao af.length ac) := R.at_box hx2 rfl
        have p2_5 : w2.cell? ⟨w.heap.size, 5, none⟩ = some (.int .i64 cu) := R.at_box hx2 rfl
        clear d2 b2 k2 hx2 p1_0 p1_1 p1_2 p1_3 p1_4 p1_5 HE1
        go_wp2_with fail
        refine (tword_any B b _ [123] _ HD2.out (by have := HL.out; (try simp only [List.length_append, List.length_cons, List.length_nil]); omega)).mono ?_
        rintro e w3 ⟨rfl, d3, b3, k3⟩
        have HD3 : Hid (T.Bd B b (((t ++ ([94] ++ [32])) ++ tb) ++ ([123] ++ [32])) w3) := d3
        have HB3 : Hid (Below B W w3) := HB2.out.trans b3
        have HK3 : Hid (Lib.OthersKept 5 (some b) W w3) := HK2.out.trans k3
        have HE3 : Hid (R.Env w0 B w3) := HE2.out.next b3
        have hx3 := HK3.out _ _ HXW.out HNe.out (fun c fz h => by cases h)
        have p3_0 : w3.cell? ⟨w.heap.size, 0, none⟩ = some (.bool true) := R.at_box hx3 rfl
        have p3_1 : w3.cell? ⟨w.heap.size, 1, none⟩ = some (.bool false) := R.at_box hx3 rfl
        have p3_2 : w3.cell? ⟨w.heap.size, 2, none⟩ = some (.slice bo be.length bc) := R.at_box hx3 rfl
        have p3_3 : w3.cell? ⟨w.heap.size, 3, none⟩ = some (.slice so sr.length sc) := R.at_box hx3 rfl
        have p3_4 : w3.cell? ⟨w.heap.size, 4, none⟩ = some (.slice ao af.length ac) := R.at_box hx3 rfl
        have p3_5 : w3.cell? ⟨w.heap.size, 5, none⟩ = some (.int .i64 cu) := R.at_box hx3 rfl
        clear d3 b3 k3 hx3 p2_0 p2_1 p2_2 p2_3 p2_4 p2_5 HE2
        go_wp2_with fail
        refine (HIs.out _ _ HE3.out HD3.out (by have := HL.out; (try simp only [List.length_append, List.length_cons, List.length_nil]); omega)).mono ?_
        rintro e w4 ⟨rfl, d4, b4, k4⟩
        have HD4 : Hid (T.Bd B b ((((t ++ ([94] ++ [32])) ++ tb) ++ ([123] ++ [32])) ++ ts) w4) := d4
        have HB4 : Hid (Below B W w4) := HB3.out.trans b4
        have HK4 : Hid (Lib.OthersKept 5 (some b) W w4) := HK3.out.trans k4
        have HE4 : Hid (R.Env w0 B w4) := HE3.out.next b4
        have hx4 := HK4.out _ _ HXW.out HNe.out (fun c fz h => by cases h)
        have p4_0 : w4.cell? ⟨w.heap.size, 0, none⟩ = some (.bool true) := R.at_box hx4 rfl
        have p4_1 : w4.cell? ⟨w.heap.size, 1, none⟩ = some (.bool false) := R.at_box hx4 rfl
        have p4_2 : w4.cell? ⟨w.heap.size, 2, none⟩ = some (.slice bo be.length bc) := R.at_box hx4 rfl
        have p4_3 : w4.cell? ⟨w.heap.size, 3, none⟩ = some (.slice so sr.length sc) := R.at_box hx4 rfl
        have p4_4 : w4.cell? ⟨w.heap.size, 4, none⟩ = some (.slice ao af.length ac) := R.at_box hx4 rfl
        have p4_5 : w4.cell? ⟨w.heap.size, 5, none⟩ = some (.int .i64 cu) := R.at_box hx4 rfl
        clear d4 b4 k4 hx4 p3_0 p3_1 p3_2 p3_3 p3_4 p3_5 HE3
        go_wp2_with fail
        refine (HIa.out _ _ HE4.out HD4.out (by have := HL.out; (try simp only [List.length_append, List.length_cons, List.length_nil]); omega)).mono ?_
        rintro e w5 ⟨rfl, d5, b5, k5⟩
        have HD5 : Hid (T.Bd B b (((((t ++ ([94] ++ [32])) ++ tb) ++ ([123] ++ [32])) ++ ts) ++ ta) w5) := d5
        have HB5 : Hid (Below B W w5) := HB4.out.trans b5
        have HK5 : Hid (Lib.OthersKept 5 (some b) W w5) := HK4.out.trans k5
        have HE5 : Hid (R.Env w0 B w5) := HE4.out.next b5
        have hx5 := HK5.out _ _ HXW.out HNe.out (fun c fz h => by cases h)
        have p5_0 : w5.cell? ⟨w.heap.size, 0, none⟩ = some (.bool true) := R.at_box hx5 rfl
        have p5_1 : w5.cell? ⟨w.heap.size, 1, none⟩ = some (.bool false) := R.at_box hx5 rfl
        have p5_2 : w5.cell? ⟨w.heap.size, 2, none⟩ = some (.slice bo be.length bc) := R.at_box hx5 rfl
        have p5_3 : w5.cell? ⟨w.heap.size, 3, none⟩ = some (.slice so sr.length sc) := R.at_box hx5 rfl
        have p5_4 : w5.cell? ⟨w.heap.size, 4, none⟩ = some (.slice ao af.length ac) := R.at_box hx5 rfl
        have p5_5 : w5.cell? ⟨w.heap.size, 5, none⟩ = some (.int .i64 cu) := R.at_box hx5 rfl
        clear d5 b5 k5 hx5 p4_0 p4_1 p4_2 p4_3 p4_4 p4_5 HE4
        go_wp2
        go_end0
        refine ⟨rfl, ?_, (HBW.out.mono HBN.out).trans HB5.out, (kept_below HBW.out).trans HK5.out⟩
        have h := HD5.out
        simp only [List.append_assoc, List.cons_append, List.nil_append] at h
        simpa [List.append_assoc] using h
  | false =>
    by_cases hbe : 0 < be.length
    · have hbe2 : (0 : Int) < (be.length : Int) := by omega
      rw [if_pos (c := _ ∨ 0 < be.length) (Or.inr hbe)] at HLen
      rw [if_pos (c := _ ∨ 0 < be.length) (Or.inr hbe)]
      cases fi with
      | true =>
        have HL : Hid (t.length + tb.length + 2 + ts.length + 2 + ta.length + 2 ≤ 1000000000) := by
          have h := HLen.out
          simp at h
          show _ ≤ _
          omega
        go_enter Tryz.func36, Tryz.ntmps36
        go_wp2_with fail
        have HBW : Hid (Below w.heap.size w (w.alloc (.cells #[.bool false, .bool true, .slice bo be.length bc, .slice so sr.length sc, .slice ao af.length ac, .int .i64 cu] 47))) := HA.out _
        have HXW : Hid ((w.alloc (.cells #[.bool false, .bool true, .slice bo be.length bc, .slice so sr.length sc, .slice ao af.length ac, .int .i64 cu] 47)).heap[w.heap.size]? = some (.cells #[.bool false, .bool true, .slice bo be.length bc, .slice so sr.length sc, .slice ao af.length ac, .int .i64 cu] 47)) := heap_alloc_new w _
        have HD0 : Hid (T.Bd B b t (w.alloc (.cells #[.bool false, .bool true, .slice bo be.length bc, .slice so sr.length sc, .slice ao af.length ac, .int .i64 cu] 47))) := HBd.out.below HBW.out
        have HE0 : Hid (R.Env w0 B (w.alloc (.cells #[.bool false, .bool true, .slice bo be.length bc, .slice so sr.length sc, .slice ao af.length ac, .int .i64 cu] 47))) := HE.out.after HBW.out
        refine (HIb.out _ _ HE0.out HD0.out (by have := HL.out; (try simp only [List.length_append, List.length_cons, List.length_nil]); omega)).mono ?_
        generalize w.alloc (.cells #[.bool false, .bool true, .slice bo be.length bc, .slice so sr.length sc, .slice ao af.length ac, .int .i64 cu] 47) = W at HBW HXW HD0 HE0
        rintro e w1 ⟨rfl, d1, b1, k1⟩
        have HD1 : Hid (T.Bd B b (t ++ tb) w1) := d1
        have HB1 : Hid (Below B W w1) := b1
        have HK1 : Hid (Lib.OthersKept 5 (some b) W w1) := k1
        have HE1 : Hid (R.Env w0 B w1) := HE0.out.next b1
        have hx1 := HK1.out _ _ HXW.out HNe.out (fun c fz h => by cases h)
        have p1_0 : w1.cell? ⟨w.heap.size, 0, none⟩ = some (.bool false) := R.at_box hx1 rfl
        have p1_1 : w1.cell? ⟨w.heap.size, 1, none⟩ = some (.bool true) := R.at_box hx1 rfl
        have p1_2 : w1.cell? ⟨w.heap.size, 2, none⟩ = some (.slice bo be.length bc) := R.at_box hx1 rfl
        have p1_3 : w1.cell? ⟨w.heap.size, 3, none⟩ = some (.slice so sr.length sc) := R.at_box hx1 rfl
        have p1_4 : w1.cell? ⟨w.heap.size, 4, none⟩ = some (.slice ao af.length ac) := R.at_box hx1 rfl
        have p1_5 : w1.cell? ⟨w.heap.size, 5, none⟩ = some (.int .i64 cu) := R.at_box hx1 rfl
        clear d1 b1 k1 hx1
        go_wp2_with fail
        refine (tword_any B b _ [123] _ HD1.out (by have := HL.out; (try simp only [List.length_append, List.length_cons, List.length_nil]); omega)).mono ?_
        rintro e w2 ⟨rfl, d2, b2, k2⟩
        have HD2 : Hid (T.Bd B b ((t ++ tb) ++ ([123] ++ [32])) w2) := d2
        have HB2 : Hid (Below B W w2) := HB1.out.trans b2
        have HK2 : Hid (Lib.OthersKept 5 (some b) W w2) := HK1.out.trans k2
        have HE2 : Hid (R.Env w0 B w2) := HE1.out.next b2
        have hx2 := HK2.out _ _ HXW.out HNe.out (fun c fz h => by cases h)
        have p2_0 : w2.cell? ⟨w.heap.size, 0, none⟩ = some (.bool false) := R.at_box hx2 rfl
        have p2_1 : w2.cell? ⟨w.heap.size, 1, none⟩ = some (.bool true) := R.at_box hx2 rfl
        have p2_2 : w2.cell? ⟨w.heap.size, 2, none⟩ = some (.slice bo be.length bc) := R.at_box hx2 rfl
        have p2_3 : w2.cell? ⟨w.heap.size, 3, none⟩ = some (.slice so sr.length sc) := R.at_box hx2 rfl
        have p2_4 : w2.cell? ⟨w.heap.size, 4, none⟩ = some (.slice ao af.length ac) := R.at_box hx2 rfl
        have p2_5 : w2.cell? ⟨w.heap.size, 5, none⟩ = some (.int .i64 cu) := R.at_box hx2 rfl
        clear d2 b2 k2 hx2 p1_0 p1_1 p1_2 p1_3 p1_4 p1_5 HE1
        go_wp2_with fail
        refine (HIs.out _ _ HE2.out HD2.out (by have := HL.out; (try simp only [List.length_append, List.length_cons, List.length_nil]); omega)).mono ?_
        rintro e w3 ⟨rfl, d3, b3, k3⟩
        have HD3 : Hid (T.Bd B b (((t ++ tb) ++ ([123] ++ [32])) ++ ts) w3) := d3
        have HB3 : Hid (Below B W w3) := HB2.out.trans b3
        have HK3 : Hid (Lib.OthersKept 5 (some b) W w3) := HK2.out.trans k3
        have HE3 : Hid (R.Env w0 B w3) := HE2.out.next b3
        have hx3 := HK3.out _ _ HXW.out HNe.out (fun c fz h => by cases h)
        have p3_0 : w3.cell? ⟨w.heap.size, 0, none⟩ = some (.bool false) := R.at_box hx3 rfl
        have p3_1 : w3.cell? ⟨w.heap.size, 1, none⟩ = some (.bool true) := R.at_box hx3 rfl
        have p3_2 : w3.cell? ⟨w.heap.size, 2, none⟩ = some (.slice bo be.length bc) := R.at_box hx3 rfl
        have p3_3 : w3.cell? ⟨w.heap.size, 3, none⟩ = some (.slice so sr.length sc) := R.at_box hx3 rfl
        have p3_4 : w3.cell? ⟨w.heap.size, 4, none⟩ = some (.slice ao af.length ac) := R.at_box hx3 rfl
        have p3_5 : w3.cell? ⟨w.heap.size, 5, none⟩ = some (.int .i64 cu) := R.at_box hx3 rfl
        clear d3 b3 k3 hx3 p2_0 p2_1 p2_2 p2_3 p2_4 p2_5 HE2
        go_wp2_with fail
        refine (tword_any B b _ [125] _ HD3.out (by have := HL.out; (try simp only [List.length_append, List.length_cons, List.length_nil]); omega)).mono ?_
        rintro e w4 ⟨rfl, d4, b4, k4⟩
        have HD4 : Hid (T.Bd B b ((((t ++ tb) ++ ([123] ++ [32])) ++ ts) ++ ([125] ++ [32])) w4) := d4
        have HB4 : Hid (Below B W w4) := HB3.out.trans b4
        have HK4 : Hid (Lib.OthersKept 5 (some b) W w4) := HK3.out.trans k4
        have HE4 : Hid (R.Env w0 B w4) := HE3.out.next b4
        have hx4 := HK4.out _ _ HXW.out HNe.out (fun c fz h => by cases h)
        have p4_0 : w4.cell? ⟨w.heap.size, 0, none⟩ = some (.bool false) := R.at_box hx4 rfl
        have p4_1 : w4.cell? ⟨w.heap.size, 1, none⟩ = some (.bool true) := R.at_box hx4 rfl
        have p4_2 : w4.cell? ⟨w.heap.size, 2, none⟩ = some (.slice bo be.length bc) := R.at_box hx4 rfl
        have p4_3 : w4.cell? ⟨w.heap.size, 3, none⟩ = some (.slice so sr.length sc) := R.at_box hx4 rfl
        have p4_4 : w4.cell? ⟨w.heap.size, 4, none⟩ = some (.slice ao af.length ac) := R.at_box hx4 rfl
        have p4_5 : w4.cell? ⟨w.heap.size, 5, none⟩ = some (.int .i64 cu) := R.at_box hx4 rfl
        clear d4 b4 k4 hx4 p3_0 p3_1 p3_2 p3_3 p3_4 p3_5 HE3
        go_wp2_with fail
        refine (HIa.out _ _ HE4.out HD4.out (by have := HL.out; (try simp only [List.length_append, List.length_cons, List.length_nil]); omega)).mono ?_
        rintro e w5 ⟨rfl, d5, b5, k5⟩
        have HD5 : Hid (T.Bd B b (((((t ++ tb) ++ ([123] ++ [32])) ++ ts) ++ ([125] ++ [32])) ++ ta) w5) := d5
        have HB5 : Hid (Below B W w5) := HB4.out.trans b5
        have HK5 : Hid (Lib.OthersKept 5 (some b) W w5) := HK4.out.trans k5
        have HE5 : Hid (R.Env w0 B w5) := HE4.out.next b5
        have hx5 := HK5.out _ _ HXW.out HNe.out (fun c fz h => by cases h)
        have p5_0 : w5.cell? ⟨w.heap.size, 0, none⟩ = some (.bool false) := R.at_box hx5 rfl
        have p5_1 : w5.cell? ⟨w.heap.size, 1, none⟩ = some (.bool true) := R.at_box hx5 rfl
        have p5_2 : w5.cell? ⟨w.heap.size, 2, none⟩ = some (.slice bo be.length bc) := R.at_box hx5 rfl
        have p5_3 : w5.cell? ⟨w.heap.size, 3, none⟩ = some (.slice so sr.length sc) := R.at_box hx5 rfl
        have p5_4 : w5.cell? ⟨w.heap.size, 4, none⟩ = some (.slice ao af.length ac) := R.at_box hx5 rfl
        have p5_5 : w5.cell? ⟨w.heap.size, 5, none⟩ = some (.int .i64 cu) := R.at_box hx5 rfl
        clear d5 b5 k5 hx5 p4_0 p4_1 p4_2 p4_3 p4_4 p4_5 HE4
        go_wp2_with fail
        refine (tword_any B b _ [36] _ HD5.out (by have := HL.out; (try simp only [List.length_append, List.length_cons, List.length_nil]); omega)).mono ?_
        rintro e w6 ⟨rfl, d6, b6, k6⟩
        have HD6 : Hid (T.Bd B b ((((((t ++ tb) ++ ([123] ++ [32])) ++ ts) ++ ([125] ++ [32])) ++ ta) ++ ([36] ++ [32])) w6) := d6
        have HB6 : Hid (Below B W w6) := HB5.out.trans b6
        have HK6 : Hid (Lib.OthersKept 5 (some b) W w6) := HK5.out.trans k6
        have HE6 : Hid (R.Env w0 B w6) := HE5.out.next b6
        have hx6 := HK6.out _ _ HXW.out HNe.out (fun c fz h => by cases h)
        have p6_0 : w6.cell? ⟨w.heap.size, 0, none⟩ = some (.bool false) := R.at_box hx6 rfl
        have p6_1 : w6.cell? ⟨w.heap.size, 1, none⟩ = some (.bool true) := R.at_box hx6 rfl
        have p6_2 : w6.cell? ⟨w.heap.size, 2, none⟩ = some (.slice bo be.length bc) := R.at_box hx6 rfl
        have p6_3 : w6.cell? ⟨w.heap.size, 3, none⟩ = some (.slice so sr.length sc) := R.at_box hx6 rfl
        have p6_4 : w6.cell? ⟨w.heap.size, 4, none⟩ = some (.slice ao af.length ac) := R.at_box hx6 rfl
        have p6_5 : w6.cell? ⟨w.heap.size, 5, none⟩ = some (.int .i64 cu) := R.at_box hx6 rfl
        clear d6 b6 k6 hx6 p5_0 p5_1 p5_2 p5_3 p5_4 p5_5 HE5
        go_wp2
        go_end0
        refine ⟨rfl, ?_, (HBW.out.mono HBN.out).trans HB6.out, (kept_below HBW.out).trans HK6.out⟩
        have h := HD6.out
        simp only [List.append_assoc, List.cons_append, List.nil_append] at h
        simpa [List.append_assoc] using h
      | false =>
        by_cases ha : 0 < af.length
        · have ha2 : (0 : Int) < (af.length : Int) := by omega
          rw [if_pos (c := _ ∨ 0 < af.length) (Or.inr ha)] at HLen
          rw [if_pos (c := _ ∨ 0 < af.length) (Or.inr ha)]
          have HL : Hid (t.length + tb.length + 2 + ts.length + 2 + ta.length ≤ 1000000000) := by
            have h := HLen.out
            simp at h
            show _ ≤ _
            omega
          go_enter Tryz.func36, Tryz.ntmps36
          go_wp2_with fail
          have HBW : Hid (Below w.heap.size w (w.alloc (.cells #[.bool false, .bool false, .slice bo be.length bc, .slice so sr.length sc, .slice ao af.length ac, .int .i64 cu] 47))) := HA.out _
          have HXW : Hid ((w.alloc (.cells #[.bool false, .bool false, .slice bo be.length bc, .slice so sr.length sc, .slice ao af.length ac, .int .i64 cu] 47)).heap[w.heap.size]? = some (.cells #[.bool false, .bool false, .slice bo be.length bc, .slice so sr.length sc, .slice ao af.length ac, .int .i64 cu] 47)) := heap_alloc_new w _
          have HD0 : Hid (T.Bd B b t (w.alloc (.cells #[.bool false, .bool false, .slice bo be.length bc, .slice so sr.length sc, .slice ao af.length ac, .int .i64 cu] 47))) := HBd.out.below HBW.out
          have HE0 : Hid (R.Env w0 B (w.alloc (.cells #[.bool false, .bool false, .slice bo be.length bc, .slice so sr.length sc, .slice ao af.length ac, .int .i64 cu] 47))) := HE.out.after HBW.out
          refine (HIb.out _ _ HE0.out HD0.out (by have := HL.out; (try simp only [List.length_append, List.length_cons, List.length_nil]); omega)).mono ?_
          generalize w.alloc (.cells #[.bool false, .bool false, .slice bo be.length bc, .slice so sr.length sc, .slice ao af.length ac, .int .i64 cu] 47) = W at HBW HXW HD0 HE0
          rintro e w1 ⟨rfl, d1, b1, k1⟩
          have HD1 : Hid (T.Bd B b (t ++ tb) w1) := d1
          have HB1 : Hid (Below B W w1) := b1
          have HK1 : Hid (Lib.OthersKept 5 (some b) W w1) := k1
          have HE1 : Hid (R.Env w0 B w1) := HE0.out.next b1
          have hx1 := HK1.out _ _ HXW.out HNe.out (fun c fz h => by cases h)
          have p1_0 : w1.cell? ⟨w.heap.size, 0, none⟩ = some (.bool false) := R.at_box hx1 rfl
          have p1_1 : w1.cell? ⟨w.heap.size, 1, none⟩ = some (.bool false) := R.at_box hx1 rfl
          have p1_2 : w1.cell? ⟨w.heap.size, 2, none⟩ = some (.slice bo be.length bc) := R.at_box hx1 rfl
          have p1_3 : w1.cell? ⟨w.heap.size, 3, none⟩ = some (.slice so sr.length sc) := R.at_box hx1 rfl
          have p1_4 : w1.cell? ⟨w.heap.size, 4, none⟩ = some (.slice ao af.length ac) := R.at_box hx1 rfl
          have p1_5 : w1.cell? ⟨w.heap.size, 5, none⟩ = some (.int .i64 cu) := R.at_box hx1 rfl
          clear d1 b1 k1 hx1
          go_wp2_with fail
          refine (tword_any B b _ [123] _ HD1.out (by have := HL.out; (try simp only [List.length_append, List.length_cons, List.length_nil]); omega)).mono ?_
          rintro e w2 ⟨rfl, d2, b2, k2⟩
          have HD2 : Hid (T.Bd B b ((t ++ tb) ++ ([123] ++ [32])) w2) := d2
          have HB2 : Hid (Below B W w2) := HB1.out.trans b2
          have HK2 : Hid (Lib.OthersKept 5 (some b) W w2) := HK1.out.trans k2
          have HE2 : Hid (R.Env w0 B w2) := HE1.out.next b2
          have hx2 := HK2.out _ _ HXW.out HNe.out (fun c fz h => by cases h)
          have p2_0 : w2.cell? ⟨w.heap.size, 0, none⟩ = some (.bool false) := R.at_box hx2 rfl
          have p2_1 : w2.cell? ⟨w.heap.size, 1, none⟩ = some (.bool false) := R.at_box hx2 rfl
          have p2_2 : w2.cell? ⟨w.heap.size, 2, none⟩ = some (.slice bo be.length bc) := R.at_box hx2 rfl
          have p2_3 : w2.cell? ⟨w.heap.size, 3, none⟩ = some (.slice so sr.length sc) := R.at_box hx2 rfl
          have p2_4 : w2.cell? ⟨w.heap.size, 4, none⟩ = some (.slice ao af.length ac) := R.at_box hx2 rfl
          have p2_5 : w2.cell? ⟨w.heap.size, 5, none⟩ = some (.int .i64 cu) := R.at_box hx2 rfl
          clear d2 b2 k2 hx2 p1_0 p1_1 p1_2 p1_3 p1_4 p1_5 HE1
          go_wp2_with fail
          refine (HIs.out _ _ HE2.out HD2.out (by have := HL.out; (try simp only [List.length_append, List.length_cons, List.length_nil]); omega)).mono ?_
          rintro e w3 ⟨rfl, d3, b3, k3⟩
          have HD3 : Hid (T.Bd B b (((t ++ tb) ++ ([123] ++ [32])) ++ ts) w3) := d3
          have HB3 : Hid (Below B W w3) := HB2.out.trans b3
          have HK3 : Hid (Lib.OthersKept 5 (some b) W w3) := HK2.out.trans k3
          have HE3 : Hid (R.Env w0 B w3) := HE2.out.next b3
          have hx3 := HK3.out _ _ HXW.out HNe.out (fun c fz h => by cases h)
          have p3_0 : w3.cell? ⟨w.heap.size, 0, none⟩ = some (.bool false) := R.at_box hx3 rfl
          have p3_1 : w3.cell? ⟨w.heap.size, 1, none⟩ = some (.bool false) := R.at_box hx3 rfl
          have p3_2 : w3.cell? ⟨w.heap.size, 2, none⟩ = some (.slice bo be.length bc) := R.at_box hx3 rfl
          have p3_3 : w3.cell? ⟨w.heap.size, 3, none⟩ = some (.slice so sr.length sc) := R.at_box hx3 rfl
          have p3_4 : w3.cell? ⟨w.heap.size, 4, none⟩ = some (.slice ao af.length ac) := R.at_box hx3 rfl
          have p3_5 : w3.cell? ⟨w.heap.size, 5, none⟩ = some (.int .i64 cu) := R.at_box hx3 rfl
          clear d3 b3 k3 hx3 p2_0 p2_1 p2_2 p2_3 p2_4 p2_5 HE2
          go_wp2_with fail
          refine (tword_any B b _ [125] _ HD3.out (by have := HL.out; (try simp only [List.length_append, List.length_cons, List.length_nil]); omega)).mono ?_
          rintro e w4 ⟨rfl, d4, b4, k4⟩
          have HD4 : Hid (T.Bd B b ((((t ++ tb) ++ ([123] ++ [32])) ++ ts) ++ ([125] ++ [32])) w4) := d4
          have HB4 : Hid (Below B W w4) := HB3.out.trans b4
          have HK4 : Hid (Lib.OthersKept 5 (some b) W w4) := HK3.out.trans k4
          have HE4 : Hid (R.Env w0 B w4) := HE3.out.next b4
          have hx4 := HK4.out _ _ HXW.out HNe.out (fun c fz h => by cases h)
          have p4_0 : w4.cell? ⟨w.heap.size, 0, none⟩ = some (.bool false) := R.at_box hx4 rfl
          have p4_1 : w4.cell? ⟨w.heap.size, 1, none⟩ = some (.bool false) := R.at_box hx4 rfl
          have p4_2 : w4.cell? ⟨w.heap.size, 2, none⟩ = some (.slice bo be.length bc) := R.at_box hx4 rfl
          have p4_3 : w4.cell? ⟨w.heap.size, 3, none⟩ = some (.slice so sr.length sc) := R.at_box hx4 rfl
          have p4_4 : w4.cell? ⟨w.heap.size, 4, none⟩ = some (.slice ao af.length ac) := R.at_box hx4 rfl
          have p4_5 : w4.cell? ⟨w.heap.size, 5, none⟩ = some (.int .i64 cu) := R.at_box hx4 rfl
          clear d4 b4 k4 hx4 p3_0 p3_1 p3_2 p3_3 p3_4 p3_5 HE3
          go_wp2_with fail
          refine (HIa.out _ _ HE4.out HD4.out (by have := HL.out; (try simp only [List.length_append, List.length_cons, List.length_nil]); omega)).mono ?_
          rintro e w5 ⟨rfl, d5, b5, k5⟩
          have HD5 : Hid (T.Bd B b (((((t ++ tb) ++ ([123] ++ [32])) ++ ts) ++ ([125] ++ [32])) ++ ta) w5) := d5
          have HB5 : Hid (Below B W w5) := HB4.out.trans b5
          have HK5 : Hid (Lib.OthersKept 5 (some b) W w5) := HK4.out.trans k5
          have HE5 : Hid (R.Env w0 B w5) := HE4.out.next b5
          have hx5 := HK5.out _ _ HXW.out HNe.out (fun c fz h => by cases h)
          have p5_0 : w5.cell? ⟨w.heap.size, 0, none⟩ = some (.bool false) := R.at_box hx5 rfl
          have p5_1 : w5.cell? ⟨w.heap.size, 1, none⟩ = some (.bool false) := R.at_box hx5 rfl
          have p5_2 : w5.cell? ⟨w.heap.size, 2, none⟩ = some (.slice bo be.length bc) := R.at_box hx5 rfl
          have p5_3 : w5.cell? ⟨w.heap.size, 3, none⟩ = some (.slice so sr.length sc) := R.at_box hx5 rfl
          have p5_4 : w5.cell? ⟨w.heap.size, 4, none⟩ = some (.slice ao af.length ac) := R.at_box hx5 rfl
          have p5_5 : w5.cell? ⟨w.heap.size, 5, none⟩ = some (.int .i64 cu) := R.at_box hx5 rfl
          clear d5 b5 k5 hx5 p4_0 p4_1 p4_2 p4_3 p4_4 p4_5 HE4
          go_wp2
          go_end0
          refine ⟨rfl, ?_, (HBW.out.mono HBN.out).trans HB5.out, (kept_below HBW.out).trans HK5.out⟩
          have h := HD5.out
          simp only [List.append_assoc, List.cons_append, List.nil_append] at h
          simpa [List.append_assoc] using h
        · have ha2 : ¬ (0 : Int) < (af.length : Int) := by omega
          rw [if_neg (c := _ ∨ 0 < af.length) (by rintro (h | h); cases h; omega)] at HLen
          rw [if_neg (c := _ ∨ 0 < af.length) (by rintro (h | h); cases h; omega)]
          have HL : Hid (t.length + tb.length + 2 + ts.length + ta.length ≤ 1000000000) := by
            have h := HLen.out
            simp at h
            show _ ≤ _
            omega
          go_enter Tryz.func36, Tryz.ntmps36
          go_wp2_with fail
          have HBW : Hid (Below w.heap.size w (w.alloc (.cells #[.bool false, .bool false, .slice bo be.length bc, .slice so sr.length sc, .slice ao af.length ac, .int .i64 cu] 47))) := HA.out _
          have HXW : Hid ((w.alloc (.cells #[.bool false, .bool false, .slice bo be.length bc, .slice so sr.length sc, .slice ao af.length ac, .int .i64 cu] 47)).heap[w.heap.size]? = some (.cells #[.bool false, .bool false, .slice bo be.length bc, .slice so sr.length sc, .slice ao af.length ac, .int .i64 cu] 47)) := heap_alloc_new w _
          have HD0 : Hid (T.Bd B b t (w.alloc (.cells #[.bool false, .bool false, .slice bo be.length bc, .slice so sr.length sc, .slice ao af.length ac, .int .i64 cu] 47))) := HBd.out.below HBW.out
          have HE0 : Hid (R.Env w0 B (w.alloc (.cells #[.bool false, .bool false, .slice bo be.length bc, .slice so sr.length sc, .slice ao af.length ac, .int .i64 cu] 47))) := HE.out.after HBW.out
          refine (HIb.out _ _ HE0.out HD0.out (by have := HL.out; (try simp only [List.length_append, List.length_cons, List.length_nil]); omega)).mono ?_
          generalize w.alloc (.cells #[.bool false, .bool false, .slice bo be.length bc, .slice so sr.length sc, .slice ao af.length ac, .int .i64 cu] 47) = W at HBW HXW HD0 HE0
          rintro e w1 ⟨rfl, d1, b1, k1⟩
          have HD1 : Hid (T.Bd B b (t ++ tb) w1) := d1
          have HB1 : Hid (Below B W w1) := b1
          have HK1 : Hid (Lib.OthersKept 5 (some b) W w1) := k1
          have HE1 : Hid (R.Env w0 B w1) := HE0.out.next b1
          have hx1 := HK1.out _ _ HXW.out HNe.out (fun c fz h => by cases h)
          have p1_0 : w1.cell? ⟨w.heap.size, 0, none⟩ = some (.bool false) := R.at_box hx1 rfl
          have p1_1 : w1.cell? ⟨w.heap.size, 1, none⟩ = some (.bool false) := R.at_box hx1 rfl
          have p1_2 : w1.cell? ⟨w.heap.size, 2, none⟩ = some (.slice bo be.length bc) := R.at_box hx1 rfl
          have p1_3 : w1.cell? ⟨w.heap.size, 3, none⟩ = some (.slice so sr.length sc) := R.at_box hx1 rfl
          have p1_4 : w1.cell? ⟨w.heap.size, 4, none⟩ = some (.slice ao af.length ac) := R.at_box hx1 rfl
          have p1_5 : w1.cell? ⟨w.heap.size, 5, none⟩ = some (.int .i64 cu) := R.at_box hx1 rfl
          clear d1 b1 k1 hx1
          go_wp2_with fail
          refine (tword_any B b _ [123] _ HD1.out (by have := HL.out; (try simp only [List.length_append, List.length_cons, List.length_nil]); omega)).mono ?_
          rintro e w2 ⟨rfl, d2, b2, k2⟩
          have HD2 : Hid (T.Bd B b ((t ++ tb) ++ ([123] ++ [32])) w2) := d2
          have HB2 : Hid (Below B W w2) := HB1.out.trans b2
          have HK2 : Hid (Lib.OthersKept 5 (some b) W w2) := HK1.out.trans k2
          have HE2 : Hid (R.Env w0 B w2) := HE1.out.next b2
          have hx2 := HK2.out _ _ HXW.out HNe.out (fun c fz h => by cases h)
          have p2_0 : w2.cell? ⟨w.heap.size, 0, none⟩ = some (.bool false) := R.at_box hx2 rfl
          have p2_1 : w2.cell? ⟨w.heap.size, 1, none⟩ = some (.bool false) := R.at_box hx2 rfl
          have p2_2 : w2.cell? ⟨w.heap.size, 2, none⟩ = some (.slice bo be.length bc) := R.at_box hx2 rfl
          have p2_3 : w2.cell? ⟨w.heap.size, 3, none⟩ = some (.slice so sr.length sc) := R.at_box hx2 rfl
          have p2_4 : w2.cell? ⟨w.heap.size, 4, none⟩ = some (.slice ao af.length ac) := R.at_box hx2 rfl
          have p2_5 : w2.cell? ⟨w.heap.size, 5, none⟩ = some (.int .i64 cu) := R.at_box hx2 rfl
          clear d2 b2 k2 hx2 p1_0 p1_1 p1_2 p1_3 p1_4 p1_5 HE1
          go_wp2_with fail
          refine (HIs.out _ _ HE2.out HD2.out (by have := HL.out; (try simp only [List.length_append, List.length_cons, List.length_nil]); omega)).mono ?_
          rintro e w3 ⟨rfl, d3, b3, k3⟩
          have HD3 : Hid (T.Bd B b (((t ++ tb) ++ ([123] ++ [32])) ++ ts) w3) := d3
          have HB3 : Hid (Below B W w3) := HB2.out.trans b3
          have HK3 : Hid (Lib.OthersKept 5 (some b) W w3) := HK2.out.trans k3
          have HE3 : Hid (R.Env w0 B w3) := HE2.out.next b3
          have hx3 := HK3.out _ _ HXW.out HNe.out (fun c fz h => by cases h)
          have p3_0 : w3.cell? ⟨w.heap.size, 0, none⟩ = some (.bool false) := R.at_box hx3 rfl
          have p3_1 : w3.cell? ⟨w.heap.size, 1, none⟩ = some (.bool false) := R.at_box hx3 rfl
          have p3_2 : w3.cell? ⟨w.heap.size, 2, none⟩ = some (.slice bo be.length bc) := R.at_box hx3 rfl
          have p3_3 : w3.cell? ⟨w.heap.size, 3, none⟩ = some (.slice so sr.length sc) := R.at_box hx3 rfl
          have p3_4 : w3.cell? ⟨w.heap.size, 4, none⟩ = some (.slice ao af.length ac) := R.at_box hx3 rfl
          have p3_5 : w3.cell? ⟨w.heap.size, 5, none⟩ = some (.int .i64 cu) := R.at_box hx3 rfl
          clear d3 b3 k3 hx3 p2_0 p2_1 p2_2 p2_3 p2_4 p2_5 HE2
          go_wp2_with fail
          refine (HIa.out _ _ HE3.out HD3.out (by have := HL.out; (try simp only [List.length_append, List.length_cons, List.length_nil]); omega)).mono ?_
          rintro e w4 ⟨rfl, d4, b4, k4⟩
          have HD4 : Hid (T.Bd B b ((((t ++ tb) ++ ([123] ++ [32])) ++ ts) ++ ta) w4) := d4
          have HB4 : Hid (Below B W w4) := HB3.out.trans b4
          have HK4 : Hid (Lib.OthersKept 5 (some b) W w4) := HK3.out.trans k4
          have HE4 : Hid (R.Env w0 B w4) := HE3.out.next b4
          have hx4 := HK4.out _ _ HXW.out HNe.out (fun c fz h => by cases h)
          have p4_0 : w4.cell? ⟨w.heap.size, 0, none⟩ = some (.bool false) := R.at_box hx4 rfl
          have p4_1 : w4.cell? ⟨w.heap.size, 1, none⟩ = some (.bool false) := R.at_box hx4 rfl
          have p4_2 : w4.cell? ⟨w.heap.size, 2, none⟩ = some (.slice bo be.length bc) := R.at_box hx4 rfl
          have p4_3 : w4.cell? ⟨w.heap.size, 3, none⟩ = some (.slice so sr.length sc) := R.at_box hx4 rfl
          have p4_4 : w4.cell? ⟨w.heap.size, 4, none⟩ = some (.slice ao af.length ac) := R.at_box hx4 rfl
          have p4_5 : w4.cell? ⟨w.heap.size, 5, none⟩ = some (.int .i64 cu) := R.at_box hx4 rfl
          clear d4 b4 k4 hx4 p3_0 p3_1 p3_2 p3_3 p3_4 p3_5 HE3
          go_wp2
          go_end0
          refine ⟨rfl, ?_, (HBW.out.mono HBN.out).trans HB4.out, (kept_below HBW.out).trans HK4.out⟩
          have h := HD4.out
          simp only [List.append_assoc, List.cons_append, List.nil_append] at h
          simpa [List.append_assoc] using h
    · have hbe2 : ¬ (0 : Int) < (be.length : Int) := by omega
      rw [if_neg (c := _ ∨ 0 < be.length) (by rintro (h | h); cases h; omega)] at HLen
      rw [if_neg (c := _ ∨ 0 < be.length) (by rintro (h | h); cases h; omega)]
      cases fi with
      | true =>
        have HL : Hid (t.length + tb.length + ts.length + 2 + ta.length + 2 ≤ 1000000000) := by
          have h := HLen.out
          simp at h
          show _ ≤ _
          omega
        go_enter Tryz.func36, Tryz.ntmps36
        go_wp2_with fail
        have HBW : Hid (Below w.heap.size w (w.alloc (.cells #[.bool false, .bool true, .slice bo be.length bc, .slice so sr.length sc, .slice ao af.length ac, .int .i64 cu] 47))) := HA.out _
        have HXW : Hid ((w.alloc (.cells #[.bool false, .bool true, .slice bo be.length bc, .slice so sr.length sc, .slice ao af.length ac, .int .i64 cu] 47)).heap[w.heap.size]? = some (.cells #[.bool false, .bool true, .slice bo be.length bc, .slice so sr.length sc, .slice ao af.length ac, .int .i64 cu] 47)) := heap_alloc_new w _
        have HD0 : Hid (T.Bd B b t (w.alloc (.cells #[.bool false, .bool true, .slice bo be.length bc, .slice so sr.length sc, .slice ao af.length ac, .int .i64 cu] 47))) := HBd.out.below HBW.out
        have HE0 : Hid (R.Env w0 B (w.alloc (.cells #[.bool false, .bool true, .slice bo be.length bc, .slice so sr.length sc, .slice ao af.length ac, .int .i64 cu] 47))) := HE.out.after HBW.out
        refine (HIb.out _ _ HE0.out HD0.out (by have := HL.out; (try simp only [List.length_append, List.length_cons, List.length_nil]); omega)).mono ?_
        generalize w.alloc (.cells #[.bool false, .bool true, .slice bo be.length bc, .slice so sr.length sc, .slice ao af.length ac, .int .i64 cu] 47) = W at HBW HXW HD0 HE0
        rintro e w1 ⟨rfl, d1, b1, k1⟩
        have HD1 : Hid (T.Bd B b (t ++ tb) w1) := d1
        have HB1 : Hid (Below B W w1) := b1
        have HK1 : Hid (Lib.OthersKept 5 (some b) W w1) := k1
        have HE1 : Hid (R.Env w0 B w1) := HE0.out.next b1
        have hx1 := HK1.out _ _ HXW.out HNe.out (fun c fz h => by cases h)
        have p1_0 : w1.cell? ⟨w.heap.size, 0, none⟩ = some (.bool false) := R.at_box hx1 rfl
        have p1_1 : w1.cell? ⟨w.heap.size, 1, none⟩ = some (.bool true) := R.at_box hx1 rfl
        have p1_2 : w1.cell? ⟨w.heap.size, 2, none⟩ = some (.slice bo be.length bc) := R.at_box hx1 rfl
        have p1_3 : w1.cell? ⟨w.heap.size, 3, none⟩ = some (.slice so sr.length sc) := R.at_box hx1 rfl
        have p1_4 : w1.cell? ⟨w.heap.size, 4, none⟩ = some (.slice ao af.length ac) := R.at_box hx1 rfl
        have p1_5 : w1.cell? ⟨w.heap.size, 5, none⟩ = some (.int .i64 cu) := R.at_box hx1 rfl
        clear d1 b1 k1 hx1
        go_wp2_with fail
        refine (HIs.out _ _ HE1.out HD1.out (by have := HL.out; (try simp only [List.length_append, List.length_cons, List.length_nil]); omega)).mono ?_
        rintro e w2 ⟨rfl, d2, b2, k2⟩
        have HD2 : Hid (T.Bd B b ((t ++ tb) ++ ts) w2) := d2
        have HB2 : Hid (Below B W w2) := HB1.out.trans b2
        have HK2 : Hid (Lib.OthersKept 5 (some b) W w2) := HK1.out.trans k2
        have HE2 : Hid (R.Env w0 B w2) := HE1.out.next b2
        have hx2 := HK2.out _ _ HXW.out HNe.out (fun c fz h => by cases h)
        have p2_0 : w2.cell? ⟨w.heap.size, 0, none⟩ = some (.bool false) := R.at_box hx2 rfl
        have p2_1 : w2.cell? ⟨w.heap.size, 1, none⟩ = some (.bool true) := R.at_box hx2 rfl
        have p2_2 : w2.cell? ⟨w.heap.size, 2, none⟩ = some (.slice bo be.length bc) := R.at_box hx2 rfl
        have p2_3 : w2.cell? ⟨w.heap.size, 3, none⟩ = some (.slice so sr.length sc) := R.at_box hx2 rfl
        have p2_4 : w2.cell? ⟨w.heap.size, 4, none⟩ = some (.slice ao af.length ac) := R.at_box hx2 rfl
        have p2_5 : w2.cell? ⟨w.heap.size, 5, none⟩ = some (.int .i64 cu) := R.at_box hx2 rfl
        clear d2 b2 k2 hx2 p1_0 p1_1 p1_2 p1_3 p1_4 p1_5 HE1
        go_wp2_with fail
        refine (tword_any B b _ [125] _ HD2.out (by have := HL.out; (try simp only [List.length_append, List.length_cons, List.length_nil]); omega)).mono ?_
        rintro e w3 ⟨rfl, d3, b3, k3⟩
        have HD3 : Hid (T.Bd B b (((t ++ tb) ++ ts) ++ ([125] ++ [32])) w3) := d3
        have HB3 : Hid (Below B W w3) := HB2.out.trans b3
        have HK3 : Hid (Lib.OthersKept 5 (some b) W w3) := HK2.out.trans k3
        have HE3 : Hid (R.Env w0 B w3) := HE2.out.next b3
        have hx3 := HK3.out _ _ HXW.out HNe.out (fun c fz h => by cases h)
        have p3_0 : w3.cell? ⟨w.heap.size, 0, none⟩ = some (.bool false) := R.at_box hx3 rfl
        have p3_1 : w3.cell? ⟨w.heap.size, 1, none⟩ = some (.bool true) := R.at_box hx3 rfl
        have p3_2 : w3.cell? ⟨w.heap.size, 2, none⟩ = some (.slice bo be.length bc) := R.at_box hx3 rfl
        have p3_3 : w3.cell? ⟨w.heap.size, 3, none⟩ = some (.slice so sr.length sc) := R.at_box hx3 rfl
        have p3_4 : w3.cell? ⟨w.heap.size, 4, none⟩ = some (.slice ao af.length ac) := R.at_box hx3 rfl
        have p3_5 : w3.cell? ⟨w.heap.size, 5, none⟩ = some (.int .i64 cu) := R.at_box hx3 rfl
        clear d3 b3 k3 hx3 p2_0 p2_1 p2_2 p2_3 p2_4 p2_5 HE2
        go_wp2_with fail
        refine (HIa.out _ _ HE3.out HD3.out (by have := HL.out; (try simp only [List.length_append, List.length_cons, List.length_nil]); omega)).mono ?_
        rintro e w4 ⟨rfl, d4, b4, k4⟩
        have HD4 : Hid (T.Bd B b ((((t ++ tb) ++ ts) ++ ([125] ++ [32])) ++ ta) w4) := d4
        have HB4 : Hid (Below B W w4) := HB3.out.trans b4
        have HK4 : Hid (Lib.OthersKept 5 (some b) W w4) := HK3.out.trans k4
        have HE4 : Hid (R.Env w0 B w4) := HE3.out.next b4
        have hx4 := HK4.out _ _ HXW.out HNe.out (fun c fz h => by cases h)
        have p4_0 : w4.cell? ⟨w.heap.size, 0, none⟩ = some (.bool false) := R.at_box hx4 rfl
        have p4_1 : w4.cell? ⟨w.heap.size, 1, none⟩ = some (.bool true) := R.at_box hx4 rfl
        have p4_2 : w4.cell? ⟨w.heap.size, 2, none⟩ = some (.slice bo be.length bc) := R.at_box hx4 rfl
        have p4_3 : w4.cell? ⟨w.heap.size, 3, none⟩ = some (.slice so sr.length sc) := R.at_box hx4 rfl
        have p4_4 : w4.cell? ⟨w.heap.size, 4, none⟩ = some (.slice ao af.length ac) := R.at_box hx4 rfl
        have p4_5 : w4.cell? ⟨w.heap.size, 5, none⟩ = some (.int .i64 cu) := R.at_box hx4 rfl
        clear d4 b4 k4 hx4 p3_0 p3_1 p3_2 p3_3 p3_4 p3_5 HE3
        go_wp2_with fail
        refine (tword_any B b _ [36] _ HD4.out (by have := HL.out; (try simp only [List.length_append, List.length_cons, List.length_nil]); omega)).mono ?_
        rintro e w5 ⟨rfl, d5, b5, k5⟩
        have HD5 : Hid (T.Bd B b (((((t ++ tb) ++ ts) ++ ([125] ++ [32])) ++ ta) ++ ([36] ++ [32])) w5) := d5
        have HB5 : Hid (Below B W w5) := HB4.out.trans b5
        have HK5 : Hid (Lib.OthersKept 5 (some b) W w5) := HK4.out.trans k5
        have HE5 : Hid (R.Env w0 B w5) := HE4.out.next b5
        have hx5 := HK5.out _ _ HXW.out HNe.out (fun c fz h => by cases h)
        have p5_0 : w5.cell? ⟨w.heap.size, 0, none⟩ = some (.bool false) := R.at_box hx5 rfl
        have p5_1 : w5.cell? ⟨w.heap.size, 1, none⟩ = some (.bool true) := R.at_box hx5 rfl
        have p5_2 : w5.cell? ⟨w.heap.size, 2, none⟩ = some (.slice bo be.length bc) := R.at_box hx5 rfl
        have p5_3 : w5.cell? ⟨w.heap.size, 3, none⟩ = some (.slice so sr.length sc) := R.at_box hx5 rfl
        have p5_4 : w5.cell? ⟨w.heap.size, 4, none⟩ = some (.slice ao af.length ac) := R.at_box hx5 rfl
        have p5_5 : w5.cell? ⟨w.heap.size, 5, none⟩ = some (.int .i64 cu) := R.at_box hx5 rfl
        clear d5 b5 k5 hx5 p4_0 p4_1 p4_2 p4_3 p4_4 p4_5 HE4
        go_wp2
        go_end0
        refine ⟨rfl, ?_, (HBW.out.mono HBN.out).trans HB5.out, (kept_below HBW.out).trans HK5.out⟩
        have h := HD5.out
        simp only [List.append_assoc, List.cons_append, List.nil_append] at h
        simpa [List.append_assoc] using h
      | false =>
        by_cases ha : 0 < af.length
        · have ha2 : (0 : Int) < (af.length : Int) := by omega
          rw [if_pos (c := _ ∨ 0 < af.length) (Or.inr ha)] at HLen
          rw [if_pos (c := _ ∨ 0 < af.length) (Or.inr ha)]
          have HL : Hid (t.length + tb.length + ts.length + 2 + ta.length ≤ 1000000000) := by
            have h := HLen.out
            simp at h
            show _ ≤ _
            omega
          go_enter Tryz.func36, Tryz.ntmps36
          go_wp2_with fail
          have HBW : Hid (Below w.heap.size w (w.alloc (.cells #[.bool false, .bool false, .slice bo be.length bc, .slice so sr.length sc, .slice ao af.length ac, .int .i64 cu] 47))) := HA.out _
          have HXW : Hid ((w.alloc (.cells #[.bool false, .bool false, .slice bo be.length bc, .slice so sr.length sc, .slice ao af.length ac, .int .i64 cu] 47)).heap[w.heap.size]? = some (.cells #[.bool false, .bool false, .slice bo be.length bc, .slice so sr.length sc, .slice ao af.length ac, .int .i64 cu] 47)) := heap_alloc_new w _
          have HD0 : Hid (T.Bd B b t (w.alloc (.cells #[.bool false, .bool false, .slice bo be.length bc, .slice so sr.length sc, .slice ao af.length ac, .int .i64 cu] 47))) := HBd.out.below HBW.out
          have HE0 : Hid (R.Env w0 B (w.alloc (.cells #[.bool false, .bool false, .slice bo be.length bc, .slice so sr.length sc, .slice ao af.length ac, .int .i64 cu] 47))) := HE.out.after HBW.out
          refine (HIb.out _ _ HE0.out HD0.out (by have := HL.out; (try simp only [List.length_append, List.length_cons, List.length_nil]); omega)).mono ?_
          generalize w.alloc (.cells #[.bool false, .bool false, .slice bo be.length bc, .slice so sr.length sc, .slice ao af.length ac, .int .i64 cu] 47) = W at HBW HXW HD0 HE0
          rintro e w1 ⟨rfl, d1, b1, k1⟩
          have HD1 : Hid (T.Bd B b (t ++ tb) w1) := d1
          have HB1 : Hid (Below B W w1) := b1
          have HK1 : Hid (Lib.OthersKept 5 (some b) W w1) := k1
          have HE1 : Hid (R.Env w0 B w1) := HE0.out.next b1
          have hx1 := HK1.out _ _ HXW.out HNe.out (fun c fz h => by cases h)
          have p1_0 : w1.cell? ⟨w.heap.size, 0, none⟩ = some (.bool false) := R.at_box hx1 rfl
          have p1_1 : w1.cell? ⟨w.heap.size, 1, none⟩ = some (.bool false) := R.at_box hx1 rfl
          have p1_2 : w1.cell? ⟨w.heap.size, 2, none⟩ = some (.slice bo be.length bc) := R.at_box hx1 rfl
          have p1_3 : w1.cell? ⟨w.heap.size, 3, none⟩ = some (.slice so sr.length sc) := R.at_box hx1 rfl
          have p1_4 : w1.cell? ⟨w.heap.size, 4, none⟩ = some (.slice ao af.length ac) := R.at_box hx1 rfl
          have p1_5 : w1.cell? ⟨w.heap.size, 5, none⟩ = some (.int .i64 cu) := R.at_box hx1 rfl
          clear d1 b1 k1 hx1
          go_wp2_with fail
          refine (HIs.out _ _ HE1.out HD1.out (by have := HL.out; (try simp only [List.length_append, List.length_cons, List.length_nil]); omega)).mono ?_
          rintro e w2 ⟨rfl, d2, b2, k2⟩
          have HD2 : Hid (T.Bd B b ((t ++ tb) ++ ts) w2) := d2
          have HB2 : Hid (Below B W w2) := HB1.out.trans b2
          have HK2 : Hid (Lib.OthersKept 5 (some b) W w2) := HK1.out.trans k2
          have HE2 : Hid (R.Env w0 B w2) := HE1.out.next b2
          have hx2 := HK2.out _ _ HXW.out HNe.out (fun c fz h => by cases h)
          have p2_0 : w2.cell? ⟨w.heap.size, 0, none⟩ = some (.bool false) := R.at_box hx2 rfl
          have p2_1 : w2.cell? ⟨w.heap.size, 1, none⟩ = some (.bool false) := R.at_box hx2 rfl
          have p2_2 : w2.cell? ⟨w.heap.size, 2, none⟩ = some (.slice bo be.length bc) := R.at_box hx2 rfl
          have p2_3 : w2.cell? ⟨w.heap.size, 3, none⟩ = some (.slice so sr.length sc) := R.at_box hx2 rfl
          have p2_4 : w2.cell? ⟨w.heap.size, 4, none⟩ = some (.slice ao af.length ac) := R.at_box hx2 rfl
          have p2_5 : w2.cell? ⟨w.heap.size, 5, none⟩ = some (.int .i64 cu) := R.at_box hx2 rfl
          clear d2 b2 k2 hx2 p1_0 p1_1 p1_2 p1_3 p1_4 p1_5 HE1
          go_wp2_with fail
          refine (tword_any B b _ [125] _ HD2.out (by have := HL.out; (try simp only [List.length_append, List.length_cons, List.length_nil]); omega)).mono ?_
          rintro e w3 ⟨rfl, d3, b3, k3⟩
          have HD3 : Hid (T.Bd B b (((t ++ tb) ++ ts) ++ ([125] ++ [32])) w3) := d3
          have HB3 : Hid (Below B W w3) := HB2.out.trans b3
          have HK3 : Hid (Lib.OthersKept 5 (some b) W w3) := HK2.out.trans k3
          have HE3 : Hid (R.Env w0 B w3) := HE2.out.next b3
          have hx3 := HK3.out _ _ HXW.out HNe.out (fun c fz h => by cases h)
          have p3_0 : w3.cell? ⟨w.heap.size, 0, none⟩ = some (.bool false) := R.at_box hx3 rfl
          have p3_1 : w3.cell? ⟨w.heap.size, 1, none⟩ = some (.bool false) := R.at_box hx3 rfl
          have p3_2 : w3.cell? ⟨w.heap.size, 2, none⟩ = some (.slice bo be.length bc) := R.at_box hx3 rfl
          have p3_3 : w3.cell? ⟨w.heap.size, 3, none⟩ = some (.slice so sr.length sc) := R.at_box hx3 rfl
          have p3_4 : w3.cell? ⟨w.heap.size, 4, none⟩ = some (.slice ao af.length ac) := R.at_box hx3 rfl
          have p3_5 : w3.cell? ⟨w.heap.size, 5, none⟩ = some (.int .i64 cu) := R.at_box hx3 rfl
          clear d3 b3 k3 hx3 p2_0 p2_1 p2_2 p2_3 p2_4 p2_5 HE2
          go_wp2_with fail
          refine (HIa.out _ _ HE3.out HD3.out (by have := HL.out; (try simp only [List.length_append, List.length_cons, List.length_nil]); omega)).mono ?_
          rintro e w4 ⟨rfl, d4, b4, k4⟩
          have HD4 : Hid (T.Bd B b ((((t ++ tb) ++ ts) ++ ([125] ++ [32])) ++ ta) w4) := d4
          have HB4 : Hid (Below B W w4) := HB3.out.trans b4
          have HK4 : Hid (Lib.OthersKept 5 (some b) W w4) := HK3.out.trans k4
          have HE4 : Hid (R.Env w0 B w4) := HE3.out.next b4
          have hx4 := HK4.out _ _ HXW.out HNe.out (fun c fz h => by cases h)
          have p4_0 : w4.cell? ⟨w.heap.size, 0, none⟩ = some (.bool false) := R.at_box hx4 rfl
          have p4_1 : w4.cell? ⟨w.heap.size, 1, none⟩ = some (.bool false) := R.at_box hx4 rfl
          have p4_2 : w4.cell? ⟨w.heap.size, 2, none⟩ = some (.slice bo be.length bc) := R.at_box hx4 rfl
          have p4_3 : w4.cell? ⟨w.heap.size, 3, none⟩ = some (.slice so sr.length sc) := R.at_box hx4 rfl
          have p4_4 : w4.cell? ⟨w.heap.size, 4, none⟩ = some (.slice ao af.length ac) := R.at_box hx4 rfl
          have p4_5 : w4.cell? ⟨w.heap.size, 5, none⟩ = some (.int .i64 cu) := R.at_box hx4 rfl
          clear d4 b4 k4 hx4 p3_0 p3_1 p3_2 p3_3 p3_4 p3_5 HE3
          go_wp2
          go_end0
          refine ⟨rfl, ?_, (HBW.out.mono HBN.out).trans HB4.out, (kept_below HBW.out).trans HK4.out⟩
          have h := HD4.out
          simp only [List.append_assoc, List.cons_append, List.nil_append] at h
          simpa [List.append_assoc] using h
        · have ha2 : ¬ (0 : Int) < (af.length : Int) := by omega
          rw [if_neg (c := _ ∨ 0 < af.length) (by rintro (h | h); cases h; omega)] at HLen
          rw [if_neg (c := _ ∨ 0 < af.length) (by rintro (h | h); cases h; omega)]
          have HL : Hid (t.length + tb.length + ts.length + ta.length ≤ 1000000000) := by
            have h := HLen.out
            simp at h
            show _ ≤ _
            omega
          go_enter Tryz.func36, Tryz.ntmps36
          go_wp2_with fail
          have HBW : Hid (Below w.heap.size w (w.alloc (.cells #[.bool false, .bool false, .slice bo be.length bc, .slice so sr.length sc, .slice ao af.length ac, .int .i64 cu] 47))) := HA.out _
          have HXW : Hid ((w.alloc (.cells #[.bool false, .bool false, .slice bo be.length bc, .slice so sr.length sc, .slice ao af.length ac, .int .i64 cu] 47)).heap[w.heap.size]? = some (.cells #[.bool false, .bool false, .slice bo be.length bc, .slice so sr.length sc, .slice ao af.length ac, .int .i64 cu] 47)) := heap_alloc_new w _
          have HD0 : Hid (T.Bd B b t (w.alloc (.cells #[.bool false, .bool false, .slice bo be.length bc, .slice so sr.length sc, .slice ao af.length ac, .int .i64 cu] 47))) := HBd.out.below HBW.out
          have HE0 : Hid (R.Env w0 B (w.alloc (.cells #[.bool false, .bool false, .slice bo be.length bc, .slice so sr.length sc, .slice ao af.length ac, .int .i64 cu] 47))) := HE.out.after HBW.out
          refine (HIb.out _ _ HE0.out HD0.out (by have := HL.out; (try simp only [List.length_append, List.length_cons, List.length_nil]); omega)).mono ?_
          generalize w.alloc (.cells #[.bool false, .bool false, .slice bo be.length bc, .slice so sr.length sc, .slice ao af.length ac, .int .i64 cu] 47) = W at HBW HXW HD0 HE0
          rintro e w1 ⟨rfl, d1, b1, k1⟩
          have HD1 : Hid (T.Bd B b (t ++ tb) w1) := d1
          have HB1 : Hid (Below B W w1) := b1
          have HK1 : Hid (Lib.OthersKept 5 (some b) W w1) := k1
          have HE1 : Hid (R.Env w0 B w1) := HE0.out.next b1
          have hx1 := HK1.out _ _ HXW.out HNe.out (fun c fz h => by cases h)
          have p1_0 : w1.cell? ⟨w.heap.size, 0, none⟩ = some (.bool false) := R.at_box hx1 rfl
          have p1_1 : w1.cell? ⟨w.heap.size, 1, none⟩ = some (.bool false) := R.at_box hx1 rfl
          have p1_2 : w1.cell? ⟨w.heap.size, 2, none⟩ = some (.slice bo be.length bc) := R.at_box hx1 rfl
          have p1_3 : w1.cell? ⟨w.heap.size, 3, none⟩ = some (.slice so sr.length sc) := R.at_box hx1 rfl
          have p1_4 : w1.cell? ⟨w.heap.size, 4, none⟩ = some (.slice ao af.length ac) := R.at_box hx1 rfl
          have p1_5 : w1.cell? ⟨w.heap.size, 5, none⟩ = some (.int .i64 cu) := R.at_box hx1 rfl
          clear d1 b1 k1 hx1
          go_wp2_with fail
          refine (HIs.out _ _ HE1.out HD1.out (by have := HL.out; (try simp only [List.length_append, List.length_cons, List.length_nil]); omega)).mono ?_
          rintro e w2 ⟨rfl, d2, b2, k2⟩
          have HD2 : Hid (T.Bd B b ((t ++ tb) ++ ts) w2) := d2
          have HB2 : Hid (Below B W w2) := HB1.out.trans b2
          have HK2 : Hid (Lib.OthersKept 5 (some b) W w2) := HK1.out.trans k2
          have HE2 : Hid (R.Env w0 B w2) := HE1.out.next b2
          have hx2 := HK2.out _ _ HXW.out HNe.out (fun c fz h => by cases h)
          have p2_0 : w2.cell? ⟨w.heap.size, 0, none⟩ = some (.bool false) := R.at_box hx2 rfl
          have p2_1 : w2.cell? ⟨w.heap.size, 1, none⟩ = some (.bool false) := R.at_box hx2 rfl
          have p2_2 : w2.cell? ⟨w.heap.size, 2, none⟩ = some (.slice bo be.length bc) := R.at_box hx2 rfl
          have p2_3 : w2.cell? ⟨w.heap.size, 3, none⟩ = some (.slice so sr.length sc) := R.at_box hx2 rfl
          have p2_4 : w2.cell? ⟨w.heap.size, 4, none⟩ = some (.slice ao af.length ac) := R.at_box hx2 rfl
          have p2_5 : w2.cell? ⟨w.heap.size, 5, none⟩ = some (.int .i64 cu) := R.at_box hx2 rfl
          clear d2 b2 k2 hx2 p1_0 p1_1 p1_2 p1_3 p1_4 p1_5 HE1
          go_wp2_with fail
          refine (HIa.out _ _ HE2.out HD2.out (by have := HL.out; (try simp only [List.length_append, List.length_cons, List.length_nil]); omega)).mono ?_
          rintro e w3 ⟨rfl, d3, b3, k3⟩
          have HD3 : Hid (T.Bd B b (((t ++ tb) ++ ts) ++ ta) w3) := d3
          have HB3 : Hid (Below B W w3) := HB2.out.trans b3
          have HK3 : Hid (Lib.OthersKept 5 (some b) W w3) := HK2.out.trans k3
          have HE3 : Hid (R.Env w0 B w3) := HE2.out.next b3
          have hx3 := HK3.out _ _ HXW.out HNe.out (fun c fz h => by cases h)
          have p3_0 : w3.cell? ⟨w.heap.size, 0, none⟩ = some (.bool false) := R.at_box hx3 rfl
          have p3_1 : w3.cell? ⟨w.heap.size, 1, none⟩ = some (.bool false) := R.at_box hx3 rfl
          have p3_2 : w3.cell? ⟨w.heap.size, 2, none⟩ = some (.slice bo be.length bc) := R.at_box hx3 rfl
          have p3_3 : w3.cell? ⟨w.heap.size, 3, none⟩ = some (.slice so sr.length sc) := R.at_box hx3 rfl
          have p3_4 : w3.cell? ⟨w.heap.size, 4, none⟩ = some (.slice ao af.length ac) := R.at_box hx3 rfl
          have p3_5 : w3.cell? ⟨w.heap.size, 5, none⟩ = some (.int .i64 cu) := R.at_box hx3 rfl
          clear d3 b3 k3 hx3 p2_0 p2_1 p2_2 p2_3 p2_4 p2_5 HE2
          go_wp2
          go_end0
          refine ⟨rfl, ?_, (HBW.out.mono HBN.out).trans HB3.out, (kept_below HBW.out).trans HK3.out⟩
          have h := HD3.out
          simp only [List.append_assoc, List.cons_append, List.nil_append] at h
          simpa [List.append_assoc] using h

end Go.Proofs.YtajbcgobfkaahaaGreatDoor

/-
  How parts and files are written: package rulesyn's Print.
-/
namespace Go.Proofs.YtajbcgobfkaahaaGreatDoor
open Go.RowKit
set_option maxRecDepth 20000
set_option linter.unusedSimpArgs false
set_option linter.unusedVariables false

theorem setB_len {s : List S.Sp} : (R.setB s).length ≤ 4202 := by
  unfold R.setB
  split
  · rename_i h
    have hn := S.wrongE_zero.1 h
    have := inner_len (l := s) fun x hx => by have := hn.2.mem hx; omega
    simp [T.prt]; omega
  · simp
theorem itemB_len {x : R.Item} (h : R.itemE x = 0) : (R.itemB x).length ≤ 4202 := by
  rcases item_ok h with ⟨h1, h2⟩ | ⟨h1, h2⟩ | ⟨h1, h2⟩
  · have e : R.itemB x = T.quo x.rune := by simp [R.itemB, h1]
    rw [e]
    have hb : x.rune ≤ 1114111 := by unfold M.right at h2; have := of_decide_eq_true h2; omega
    have := (one_len (x := (x.rune, x.rune)) hb hb).2.1
    simp only at this
    omega
  · have e : R.itemB x = R.setB x.set := by simp [R.itemB, h1]
    rw [e]; exact setB_len
  · have e : R.itemB x = 36 :: x.name.data.toList := by simp [R.itemB, h1]
    have := named_small h2
    have hs : x.name.data.toList.length = x.name.size := by simp
    rw [e, List.length_cons]; omega
theorem itemsB_len {l : List R.Item} (h : ∀ x ∈ l, R.itemE x = 0) : ∀ {c : Int}, (R.itemsB l c).length ≤ 4205 * l.length + 2 := by
  induction l with
  | nil => intro c; rw [R.itemsB]; split <;> simp [R.bar]
  | cons x l ih =>
    intro c
    have h1 := itemB_len (h x (by simp))
    have h2 := ih (fun y hy => h y (by simp [hy])) (c := c - 1)
    rw [R.itemsB]
    simp only [List.length_append, List.length_cons, List.length_nil]
    split
    · simp only [R.bar, List.length_cons, List.length_nil]; omega
    · simp only [List.length_nil]; omega
theorem sideB_len {s : R.Side} {m : Bool} (h : R.sideE s m = 0) : (R.sideB s).length ≤ 252400 := by
  obtain ⟨zb, zs, za, _, _⟩ := R.sideE_zero h
  have h1 := itemsB_len (items_ok zb).2 (c := -1)
  have h2 := itemsB_len (items_ok zs).2 (c := s.cursor)
  have h3 := itemsB_len (items_ok za).2 (c := -1)
  have l1 := (items_ok zb).1
  have l2 := (items_ok zs).1
  have l3 := (items_ok za).1
  have i1 : ∀ {p : Prop} [Decidable p] {a b : UInt8}, ((if p then [a, b] else []) : List UInt8).length ≤ 2 := by intro p _ a b; split <;> simp
  unfold R.sideB
  simp only [List.length_append]
  have j1 := i1 (p := s.start = true) (a := 94) (b := 32)
  have j2 := i1 (p := s.start = true ∨ 0 < s.before.length) (a := 123) (b := 32)
  have j3 := i1 (p := s.fin = true ∨ 0 < s.after.length) (a := 125) (b := 32)
  have j4 := i1 (p := s.fin = true) (a := 36) (b := 32)
  omega
theorem part_ok {p : R.Part} (h : R.partE p = 0) : (p.kind = 1 ∧ R.named p.name = true ∧ S.wrongE p.set = 0) ∨ (p.kind = 3 ∧ S.wrongE p.set = 0) ∨ (p.kind = 4 ∧ R.passes p.name = true) ∨ (p.kind = 2 ∧ R.ruleE p = 0) := by
  unfold R.partE at h
  split at h
  · rename_i h1
    split at h
    · rename_i h2; exact .inl ⟨h1, h2, h⟩
    · cases h
  · split at h
    · rename_i h1; exact .inr (.inl ⟨h1, h⟩)
    · split at h
      · rename_i h1
        split at h
        · rename_i h2; exact .inr (.inr (.inl ⟨h1, h2⟩))
        · cases h
      · split at h
        · rename_i h1; exact .inr (.inr (.inr ⟨h1, h⟩))
        · cases h
theorem pass_small {n : ByteArray} (h : R.passes n = true) : n.size ≤ 6 := by
  unfold R.passes at h
  have h := of_decide_eq_true h
  have hs : n.size = n.toList.length := by simp [ByteArray.toList_eq]
  rw [hs]
  rcases h with h | h | h | h <;> (rw [h]; decide)
theorem wordsB_len {p : R.Part} (h : R.partE p = 0) : (R.wordsB p).length ≤ 504900 := by
  rcases part_ok h with ⟨h1, h2, h3⟩ | ⟨h1, h2⟩ | ⟨h1, h2⟩ | ⟨h1, h2⟩
  · have e := named_small h2
    have hs : p.name.data.toList.length = p.name.size := by simp
    have h4 := setB_len (s := p.set)
    unfold R.wordsB
    rw [if_pos h1]
    simp only [List.length_append, List.length_cons, List.length_nil]
    omega
  · have h4 := setB_len (s := p.set)
    unfold R.wordsB
    rw [if_neg (by omega), if_pos h1]
    simp only [List.length_append, List.length_cons, List.length_nil]
    omega
  · have e := pass_small h2
    have hs : p.name.data.toList.length = p.name.size := by simp
    unfold R.wordsB
    rw [if_neg (by omega), if_neg (by omega), if_pos h1]
    simp only [List.length_append, List.length_cons, List.length_nil]
    omega
  · obtain ⟨_, h3, h4, _⟩ := R.ruleE_zero h2
    have l1 := sideB_len h3
    have l2 := sideB_len h4
    unfold R.wordsB
    rw [if_neg (by omega), if_neg (by omega), if_neg (by omega), if_pos h1]
    have l3 : (R.arrowB p.dir).length ≤ 2 := by unfold R.arrowB; split; · simp
                                                split <;> simp
    simp only [List.length_append, List.length_cons, List.length_nil]
    omega
theorem printB_len {l : List R.Part} (h : ∀ p ∈ l, R.partE p = 0) : (R.printB l).length ≤ 504902 * l.length := by
  induction l with
  | nil => simp [R.printB]
  | cons p l ih =>
    have h1 := wordsB_len (h p (by simp))
    have h2 := ih fun q hq => h q (by simp [hq])
    unfold R.printB at h2 ⊢
    have e : (R.partB p).length = (R.wordsB p).length + 2 := by simp [R.partB]
    rw [List.flatMap_cons, List.length_append, List.length_cons, e]
    omega

theorem str_list (n : ByteArray) : n = ⟨n.data.toList.toArray⟩ := by
  apply ByteArray.ext; simp

set_option maxHeartbeats 8000000 in
theorem tellPart_any (w0 : World) (B b : Nat) (w : World) (v : Value) (p : R.Part) (t : List UInt8) (E : R.Env w0 B w) (R0 : R.PtIs w0 v p) (hok : R.partE p = 0) (hb : T.Bd B b t w) (hlen : t.length + (R.wordsB p).length ≤ 1000000000) :
    Calls Tryz.prog 19 #[v, .func (.func 16) #[] #[.pointer (some ⟨b, 0, none⟩)]] w (R.Told B b (t ++ R.wordsB p) w) := by
  have eg : ∀ args w, (callFunc 16 args).run Tryz.prog w = .ok (.enter 16 args) w := enters_of Tryz.func16 (by kernel_rfl) rfl
  obtain ⟨so, sc, lbo, lbc, lso, lsc, lao, lac, rbo, rbc, rso, rsc, rao, rac, rfl, hS, hf, hL, hR, _, _⟩ := R0.open
  clear R0
  have HL : Hid (∀ w1 t, R.Env w0 B w1 → (∃ m, R.sideE p.left m = 0) → T.Bd B b t w1 → t.length + (R.sideB p.left).length ≤ 1000000000 → Calls Tryz.prog 36 #[.agg #[.bool p.left.start, .bool p.left.fin, .slice lbo p.left.before.length lbc, .slice lso p.left.source.length lsc, .slice lao p.left.after.length lac, .int .i64 p.left.cursor], .func (.func 16) #[] #[.pointer (some ⟨b, 0, none⟩)]] w1 (R.Told B b (t ++ R.sideB p.left) w1)) := fun w1 t e1 m1 b1 h1 => tellSide_any w0 B b w1 _ p.left t e1 hL m1 b1 h1
  have HR : Hid (∀ w1 t, R.Env w0 B w1 → (∃ m, R.sideE p.right m = 0) → T.Bd B b t w1 → t.length + (R.sideB p.right).length ≤ 1000000000 → Calls Tryz.prog 36 #[.agg #[.bool p.right.start, .bool p.right.fin, .slice rbo p.right.before.length rbc, .slice rso p.right.source.length rsc, .slice rao p.right.after.length rac, .int .i64 p.right.cursor], .func (.func 16) #[] #[.pointer (some ⟨b, 0, none⟩)]] w1 (R.Told B b (t ++ R.sideB p.right) w1)) := fun w1 t e1 m1 b1 h1 => tellSide_any w0 B b w1 _ p.right t e1 hR m1 b1 h1
  have HS : Hid (∀ w1, R.Env w0 B w1 → Calls Tryz.prog 35 #[.slice so p.set.length sc] w1 fun e w' => e = .returned (.string ⟨(R.setB p.set).toArray⟩) ∧ Below w1.heap.size w1 w') := fun w1 e1 => setText_any w1 _ p.set (hS.below e1.bel (Nat.le_refl _)) hf e1.tzw
  have hk := part_ok hok
  have HE : Hid (R.Env w0 B w) := E
  have HBd : Hid (T.Bd B b t w) := hb
  have HA : Hid (∀ o, Below w.heap.size w (w.alloc o)) := fun o => (Below.refl _ w).alloc (Nat.le_refl _) o
  have HNe : Hid (some w.heap.size ≠ some b) := fun e => by
    have h2 := Option.some.inj e
    rcases hb.1 with h | h <;> (have := h.lt; omega)
  have HBN : Hid (B ≤ w.heap.size) := E.now
  obtain ⟨o, HO⟩ : ∃ o, Hid (R.wordsB p = o) := ⟨_, rfl⟩
  rw [HO.out] at hlen ⊢
  have HLen : Hid (t.length + o.length ≤ 1000000000) := hlen
  clear hS hf hL hR hok E hb hlen
  obtain ⟨pk, pn, ps, pd, pl, pr⟩ := p
  simp only at HL HR HS hk ⊢
  have HWd : Hid (∀ w1 l m, T.Bd B b l w1 → l.length + m.length ≤ 1000000000 → Calls Tryz.prog 16 #[.string ⟨m.toArray⟩, .pointer (some ⟨b, 0, none⟩)] w1 (R.Told B b (l ++ (m ++ [32])) w1)) := fun w1 l m h1 h2 => tword_any B b l m w1 h1 h2
  rcases hk with ⟨rfl, hn, _⟩ | ⟨rfl, _⟩ | ⟨rfl, hn⟩ | ⟨rfl, hrl⟩
  · have hn2 := named_small hn
    have g1 : ¬ 9223372036854775807 < 1 + pn.size := by omega
    obtain ⟨sb, HSB⟩ : ∃ x, Hid (R.setB ps = x) := ⟨_, rfl⟩
    rw [HSB.out] at HS
    have HSB2 : Hid (R.setB ps = sb) := HSB
    obtain ⟨lst, lfi, lbe, lsr, laf, lcu⟩ := pl
    obtain ⟨rst, rfi, rbe, rsr, raf, rcu⟩ := pr
    simp only at HL HR ⊢
    have HW0 : Hid ((36 :: pn.data.toList) ++ [32] ++ [61, 32] ++ (sb ++ [32]) = o) := by
      show _ = _
      rw [← HO.out]
      rw [← HSB.out]; simp [R.wordsB]
    have HLn : Hid (t.length + pn.data.toList.length + 4 + sb.length ≤ 1000000000) := by
      have h := HLen.out
      rw [← HW0.out] at h
      simp only [List.length_append, List.length_cons, List.length_nil] at h
      show _ ≤ _
      omega
    go_enter Tryz.func19, Tryz.ntmps19
    go_wp2_with fail
    have HBW : Hid (Below w.heap.size w (w.alloc (.cells #[.int .i64 1, .string pn, .slice so ps.length sc, .int .i64 pd, .bool lst, .bool lfi, .slice lbo lbe.length lbc, .slice lso lsr.length lsc, .slice lao laf.length lac, .int .i64 lcu, .bool rst, .bool rfi, .slice rbo rbe.length rbc, .slice rso rsr.length rsc, .slice rao raf.length rac, .int .i64 rcu] 49))) := HA.out _
    have HXW : Hid ((w.alloc (.cells #[.int .i64 1, .string pn, .slice so ps.length sc, .int .i64 pd, .bool lst, .bool lfi, .slice lbo lbe.length lbc, .slice lso lsr.length lsc, .slice lao laf.length lac, .int .i64 lcu, .bool rst, .bool rfi, .slice rbo rbe.length rbc, .slice rso rsr.length rsc, .slice rao raf.length rac, .int .i64 rcu] 49)).heap[w.heap.size]? = some (.cells #[.int .i64 1, .string pn, .slice so ps.length sc, .int .i64 pd, .bool lst, .bool lfi, .slice lbo lbe.length lbc, .slice lso lsr.length lsc, .slice lao laf.length lac, .int .i64 lcu, .bool rst, .bool rfi, .slice rbo rbe.length rbc, .slice rso rsr.length rsc, .slice rao raf.length rac, .int .i64 rcu] 49)) := heap_alloc_new w _
    have HD0 : Hid (T.Bd B b t (w.alloc (.cells #[.int .i64 1, .string pn, .slice so ps.length sc, .int .i64 pd, .bool lst, .bool lfi, .slice lbo lbe.length lbc, .slice lso lsr.length lsc, .slice lao laf.length lac, .int .i64 lcu, .bool rst, .bool rfi, .slice rbo rbe.length rbc, .slice rso rsr.length rsc, .slice rao raf.length rac, .int .i64 rcu] 49))) := HBd.out.below HBW.out
    have HE0 : Hid (R.Env w0 B (w.alloc (.cells #[.int .i64 1, .string pn, .slice so ps.length sc, .int .i64 pd, .bool lst, .bool lfi, .slice lbo lbe.length lbc, .slice lso lsr.length lsc, .slice lao laf.length lac, .int .i64 lcu, .bool rst, .bool rfi, .slice rbo rbe.length rbc, .slice rso rsr.length rsc, .slice rao raf.length rac, .int .i64 rcu] 49))) := HE.out.after HBW.out
    rw [dollar]
    refine (HWd.out _ _ (36 :: pn.data.toList) HD0.out (by have := HLn.out; (try simp only [List.length_append, List.length_cons, List.length_nil]); omega)).mono ?_
    generalize w.alloc (.cells #[.int .i64 1, .string pn, .slice so ps.length sc, .int .i64 pd, .bool lst, .bool lfi, .slice lbo lbe.length lbc, .slice lso lsr.length lsc, .slice lao laf.length lac, .int .i64 lcu, .bool rst, .bool rfi, .slice rbo rbe.length rbc, .slice rso rsr.length rsc, .slice rao raf.length rac, .int .i64 rcu] 49) = W at HBW HXW HD0 HE0
    rintro e w1 ⟨rfl, d1, b1, k1⟩
    have HD1 : Hid (T.Bd B b (t ++ ((36 :: pn.data.toList) ++ [32])) w1) := d1
    have HB1 : Hid (Below B W w1) := b1
    have HK1 : Hid (Lib.OthersKept 5 (some b) W w1) := k1
    have HE1 : Hid (R.Env w0 B w1) := HE0.out.next b1
    have hx1 := HK1.out _ _ HXW.out HNe.out (fun c fz h => by cases h)
    have p1_0 : w1.cell? ⟨w.heap.size, 0, none⟩ = some (.int .i64 1) := R.at_box hx1 rfl
    have p1_1 : w1.cell? ⟨w.heap.size, 1, none⟩ = some (.string pn) := R.at_box hx1 rfl
    have p1_2 : w1.cell? ⟨w.heap.size, 2, none⟩ = some (.slice so ps.length sc) := R.at_box hx1 rfl
    clear d1 b1 k1 hx1 HE0
    go_wp2_with fail
    refine (HWd.out _ _ [61] HD1.out (by have := HLn.out; (try simp only [List.length_append, List.length_cons, List.length_nil]); omega)).mono ?_
    rintro e w2 ⟨rfl, d2, b2, k2⟩
    have HD2 : Hid (T.Bd B b ((t ++ ((36 :: pn.data.toList) ++ [32])) ++ ([61] ++ [32])) w2) := d2
    have HB2 : Hid (Below B W w2) := HB1.out.trans b2
    have HK2 : Hid (Lib.OthersKept 5 (some b) W w2) := HK1.out.trans k2
    have HE2 : Hid (R.Env w0 B w2) := HE1.out.next b2
    have hx2 := HK2.out _ _ HXW.out HNe.out (fun c fz h => by cases h)
    have p2_0 : w2.cell? ⟨w.heap.size, 0, none⟩ = some (.int .i64 1) := R.at_box hx2 rfl
    have p2_1 : w2.cell? ⟨w.heap.size, 1, none⟩ = some (.string pn) := R.at_box hx2 rfl
    have p2_2 : w2.cell? ⟨w.heap.size, 2, none⟩ = some (.slice so ps.length sc) := R.at_box hx2 rfl
    clear d2 b2 k2 hx2 HE1
    go_wp2_with fail
    refine (HS.out _ HE2.out).mono ?_
    rintro e w3 ⟨rfl, b3⟩
    have HD3 : Hid (T.Bd B b ((t ++ ((36 :: pn.data.toList) ++ [32])) ++ ([61] ++ [32])) w3) := HD2.out.below b3
    have HB3 : Hid (Below B W w3) := HB2.out.trans (b3.mono HE2.out.now)
    have HK3 : Hid (Lib.OthersKept 5 (some b) W w3) := HK2.out.trans (kept_below b3)
    have HE3 : Hid (R.Env w0 B w3) := HE2.out.after b3
    have hx3 := HK3.out _ _ HXW.out HNe.out (fun c fz h => by cases h)
    have p3_0 : w3.cell? ⟨w.heap.size, 0, none⟩ = some (.int .i64 1) := R.at_box hx3 rfl
    have p3_1 : w3.cell? ⟨w.heap.size, 1, none⟩ = some (.string pn) := R.at_box hx3 rfl
    have p3_2 : w3.cell? ⟨w.heap.size, 2, none⟩ = some (.slice so ps.length sc) := R.at_box hx3 rfl
    clear b3 hx3 HE2
    go_wp2_with fail
    refine (HWd.out _ _ sb HD3.out (by have := HLn.out; (try simp only [List.length_append, List.length_cons, List.length_nil]); omega)).mono ?_
    rintro e w4 ⟨rfl, d4, b4, k4⟩
    have HD4 : Hid (T.Bd B b (((t ++ ((36 :: pn.data.toList) ++ [32])) ++ ([61] ++ [32])) ++ (sb ++ [32])) w4) := d4
    have HB4 : Hid (Below B W w4) := HB3.out.trans b4
    have HK4 : Hid (Lib.OthersKept 5 (some b) W w4) := HK3.out.trans k4
    have HE4 : Hid (R.Env w0 B w4) := HE3.out.next b4
    have hx4 := HK4.out _ _ HXW.out HNe.out (fun c fz h => by cases h)
    have p4_0 : w4.cell? ⟨w.heap.size, 0, none⟩ = some (.int .i64 1) := R.at_box hx4 rfl
    have p4_1 : w4.cell? ⟨w.heap.size, 1, none⟩ = some (.string pn) := R.at_box hx4 rfl
    have p4_2 : w4.cell? ⟨w.heap.size, 2, none⟩ = some (.slice so ps.length sc) := R.at_box hx4 rfl
    clear d4 b4 k4 hx4 HE3
    go_wp2
    go_end0
    refine ⟨rfl, ?_, (HBW.out.mono HBN.out).trans HB4.out, (kept_below HBW.out).trans HK4.out⟩
    have h := HD4.out
    rw [← HW0.out]
    simp only [List.append_assoc, List.cons_append, List.nil_append] at h ⊢
    exact h
  · obtain ⟨sb, HSB⟩ : ∃ x, Hid (R.setB ps = x) := ⟨_, rfl⟩
    rw [HSB.out] at HS
    obtain ⟨lst, lfi, lbe, lsr, laf, lcu⟩ := pl
    obtain ⟨rst, rfi, rbe, rsr, raf, rcu⟩ := pr
    simp only at HL HR ⊢
    have HW0 : Hid ([58, 58, 32] ++ (sb ++ [32]) = o) := by
      show _ = _
      rw [← HO.out]
      rw [← HSB.out]; simp [R.wordsB]
    have HLn : Hid (t.length + 3 + sb.length + 1 ≤ 1000000000) := by
      have h := HLen.out
      rw [← HW0.out] at h
      simp only [List.length_append, List.length_cons, List.length_nil] at h
      show _ ≤ _
      omega
    go_enter Tryz.func19, Tryz.ntmps19
    go_wp2_with fail
    have HBW : Hid (Below w.heap.size w (w.alloc (.cells #[.int .i64 3, .string pn, .slice so ps.length sc, .int .i64 pd, .bool lst, .bool lfi, .slice lbo lbe.length lbc, .slice lso lsr.length lsc, .slice lao laf.length lac, .int .i64 lcu, .bool rst, .bool rfi, .slice rbo rbe.length rbc, .slice rso rsr.length rsc, .slice rao raf.length rac, .int .i64 rcu] 49))) := HA.out _
    have HXW : Hid ((w.alloc (.cells #[.int .i64 3, .string pn, .slice so ps.length sc, .int .i64 pd, .bool lst, .bool lfi, .slice lbo lbe.length lbc, .slice lso lsr.length lsc, .slice lao laf.length lac, .int .i64 lcu, .bool rst, .bool rfi, .slice rbo rbe.length rbc, .slice rso rsr.length rsc, .slice rao raf.length rac, .int .i64 rcu] 49)).heap[w.heap.size]? = some (.cells #[.int .i64 3, .string pn, .slice so ps.length sc, .int .i64 pd, .bool lst, .bool lfi, .slice lbo lbe.length lbc, .slice lso lsr.length lsc, .slice lao laf.length lac, .int .i64 lcu, .bool rst, .bool rfi, .slice rbo rbe.length rbc, .slice rso rsr.length rsc, .slice rao raf.length rac, .int .i64 rcu] 49)) := heap_alloc_new w _
    have HD0 : Hid (T.Bd B b t (w.alloc (.cells #[.int .i64 3, .string pn, .slice so ps.length sc, .int .i64 pd, .bool lst, .bool lfi, .slice lbo lbe.length lbc, .slice lso lsr.length lsc, .slice lao laf.length lac, .int .i64 lcu, .bool rst, .bool rfi, .slice rbo rbe.length rbc, .slice rso rsr.length rsc, .slice rao raf.length rac, .int .i64 rcu] 49))) := HBd.out.below HBW.out
    have HE0 : Hid (R.Env w0 B (w.alloc (.cells #[.int .i64 3, .string pn, .slice so ps.length sc, .int .i64 pd, .bool lst, .bool lfi, .slice lbo lbe.length lbc, .slice lso lsr.length lsc, .slice lao laf.length lac, .int .i64 lcu, .bool rst, .bool rfi, .slice rbo rbe.length rbc, .slice rso rsr.length rsc, .slice rao raf.length rac, .int .i64 rcu] 49))) := HE.out.after HBW.out
    refine (HWd.out _ _ [58, 58] HD0.out (by have := HLn.out; (try simp only [List.length_append, List.length_cons, List.length_nil]); omega)).mono ?_
    generalize w.alloc (.cells #[.int .i64 3, .string pn, .slice so ps.length sc, .int .i64 pd, .bool lst, .bool lfi, .slice lbo lbe.length lbc, .slice lso lsr.length lsc, .slice lao laf.length lac, .int .i64 lcu, .bool rst, .bool rfi, .slice rbo rbe.length rbc, .slice rso rsr.length rsc, .slice rao raf.length rac, .int .i64 rcu] 49) = W at HBW HXW HD0 HE0
    rintro e w1 ⟨rfl, d1, b1, k1⟩
    have HD1 : Hid (T.Bd B b (t ++ ([58, 58] ++ [32])) w1) := d1
    have HB1 : Hid (Below B W w1) := b1
    have HK1 : Hid (Lib.OthersKept 5 (some b) W w1) := k1
    have HE1 : Hid (R.Env w0 B w1) := HE0.out.next b1
    have hx1 := HK1.out _ _ HXW.out HNe.out (fun c fz h => by cases h)
    have p1_0 : w1.cell? ⟨w.heap.size, 0, none⟩ = some (.int .i64 3) := R.at_box hx1 rfl
    have p1_1 : w1.cell? ⟨w.heap.size, 1, none⟩ = some (.string pn) := R.at_box hx1 rfl
    have p1_2 : w1.cell? ⟨w.heap.size, 2, none⟩ = some (.slice so ps.length sc) := R.at_box hx1 rfl
    clear d1 b1 k1 hx1 HE0
    go_wp2_with fail
    refine (HS.out _ HE1.out).mono ?_
    rintro e w2 ⟨rfl, b2⟩
    have HD2 : Hid (T.Bd B b (t ++ ([58, 58] ++ [32])) w2) := HD1.out.below b2
    have HB2 : Hid (Below B W w2) := HB1.out.trans (b2.mono HE1.out.now)
    have HK2 : Hid (Lib.OthersKept 5 (some b) W w2) := HK1.out.trans (kept_below b2)
    have HE2 : Hid (R.Env w0 B w2) := HE1.out.after b2
    have hx2 := HK2.out _ _ HXW.out HNe.out (fun c fz h => by cases h)
    have p2_0 : w2.cell? ⟨w.heap.size, 0, none⟩ = some (.int .i64 3) := R.at_box hx2 rfl
    have p2_1 : w2.cell? ⟨w.heap.size, 1, none⟩ = some (.string pn) := R.at_box hx2 rfl
    have p2_2 : w2.cell? ⟨w.heap.size, 2, none⟩ = some (.slice so ps.length sc) := R.at_box hx2 rfl
    clear b2 hx2 HE1
    go_wp2_with fail
    refine (HWd.out _ _ sb HD2.out (by have := HLn.out; (try simp only [List.length_append, List.length_cons, List.length_nil]); omega)).mono ?_
    rintro e w3 ⟨rfl, d3, b3, k3⟩
    have HD3 : Hid (T.Bd B b ((t ++ ([58, 58] ++ [32])) ++ (sb ++ [32])) w3) := d3
    have HB3 : Hid (Below B W w3) := HB2.out.trans b3
    have HK3 : Hid (Lib.OthersKept 5 (some b) W w3) := HK2.out.trans k3
    have HE3 : Hid (R.Env w0 B w3) := HE2.out.next b3
    have hx3 := HK3.out _ _ HXW.out HNe.out (fun c fz h => by cases h)
    have p3_0 : w3.cell? ⟨w.heap.size, 0, none⟩ = some (.int .i64 3) := R.at_box hx3 rfl
    have p3_1 : w3.cell? ⟨w.heap.size, 1, none⟩ = some (.string pn) := R.at_box hx3 rfl
    have p3_2 : w3.cell? ⟨w.heap.size, 2, none⟩ = some (.slice so ps.length sc) := R.at_box hx3 rfl
    clear d3 b3 k3 hx3 HE2
    go_wp2
    go_end0
    refine ⟨rfl, ?_, (HBW.out.mono HBN.out).trans HB3.out, (kept_below HBW.out).trans HK3.out⟩
    have h := HD3.out
    rw [← HW0.out]
    simp only [List.append_assoc, List.cons_append, List.nil_append] at h ⊢
    exact h
  · have HNm : Hid (∀ w1 l, T.Bd B b l w1 → l.length + pn.data.toList.length ≤ 1000000000 → Calls Tryz.prog 16 #[.string pn, .pointer (some ⟨b, 0, none⟩)] w1 (R.Told B b (l ++ (pn.data.toList ++ [32])) w1)) := fun w1 l h1 h2 => by have h := tword_any B b l pn.data.toList w1 h1 h2; rw [← str_list] at h; exact h
    obtain ⟨lst, lfi, lbe, lsr, laf, lcu⟩ := pl
    obtain ⟨rst, rfi, rbe, rsr, raf, rcu⟩ := pr
    simp only at HL HR ⊢
    have HW0 : Hid ([58, 58, 32] ++ (pn.data.toList ++ [32]) = o) := by
      show _ = _
      rw [← HO.out]
      simp [R.wordsB]
    have HLn : Hid (t.length + 3 + pn.data.toList.length + 1 ≤ 1000000000) := by
      have h := HLen.out
      rw [← HW0.out] at h
      simp only [List.length_append, List.length_cons, List.length_nil] at h
      show _ ≤ _
      omega
    go_enter Tryz.func19, Tryz.ntmps19
    go_wp2_with fail
    have HBW : Hid (Below w.heap.size w (w.alloc (.cells #[.int .i64 4, .string pn, .slice so ps.length sc, .int .i64 pd, .bool lst, .bool lfi, .slice lbo lbe.length lbc, .slice lso lsr.length lsc, .slice lao laf.length lac, .int .i64 lcu, .bool rst, .bool rfi, .slice rbo rbe.length rbc, .slice rso rsr.length rsc, .slice rao raf.length rac, .int .i64 rcu] 49))) := HA.out _
    have HXW : Hid ((w.alloc (.cells #[.int .i64 4, .string pn, .slice so ps.length sc, .int .i64 pd, .bool lst, .bool lfi, .slice lbo lbe.length lbc, .slice lso lsr.length lsc, .slice lao laf.length lac, .int .i64 lcu, .bool rst, .bool rfi, .slice rbo rbe.length rbc, .slice rso rsr.length rsc, .slice rao raf.length rac, .int .i64 rcu] 49)).heap[w.heap.size]? = some (.cells #[.int .i64 4, .string pn, .slice so ps.length sc, .int .i64 pd, .bool lst, .bool lfi, .slice lbo lbe.length lbc, .slice lso lsr.length lsc, .slice lao laf.length lac, .int .i64 lcu, .bool rst, .bool rfi, .slice rbo rbe.length rbc, .slice rso rsr.length rsc, .slice rao raf.length rac, .int .i64 rcu] 49)) := heap_alloc_new w _
    have HD0 : Hid (T.Bd B b t (w.alloc (.cells #[.int .i64 4, .string pn, .slice so ps.length sc, .int .i64 pd, .bool lst, .bool lfi, .slice lbo lbe.length lbc, .slice lso lsr.length lsc, .slice lao laf.length lac, .int .i64 lcu, .bool rst, .bool rfi, .slice rbo rbe.length rbc, .slice rso rsr.length rsc, .slice rao raf.length rac, .int .i64 rcu] 49))) := HBd.out.below HBW.out
    have HE0 : Hid (R.Env w0 B (w.alloc (.cells #[.int .i64 4, .string pn, .slice so ps.length sc, .int .i64 pd, .bool lst, .bool lfi, .slice lbo lbe.length lbc, .slice lso lsr.length lsc, .slice lao laf.length lac, .int .i64 lcu, .bool rst, .bool rfi, .slice rbo rbe.length rbc, .slice rso rsr.length rsc, .slice rao raf.length rac, .int .i64 rcu] 49))) := HE.out.after HBW.out
    refine (HWd.out _ _ [58, 58] HD0.out (by have := HLn.out; (try simp only [List.length_append, List.length_cons, List.length_nil]); omega)).mono ?_
    generalize w.alloc (.cells #[.int .i64 4, .string pn, .slice so ps.length sc, .int .i64 pd, .bool lst, .bool lfi, .slice lbo lbe.length lbc, .slice lso lsr.length lsc, .slice lao laf.length lac, .int .i64 lcu, .bool rst, .bool rfi, .slice rbo rbe.length rbc, .slice rso rsr.length rsc, .slice rao raf.length rac, .int .i64 rcu] 49) = W at HBW HXW HD0 HE0
    rintro e w1 ⟨rfl, d1, b1, k1⟩
    have HD1 : Hid (T.Bd B b (t ++ ([58, 58] ++ [32])) w1) := d1
    have HB1 : Hid (Below B W w1) := b1
    have HK1 : Hid (Lib.OthersKept 5 (some b) W w1) := k1
    have HE1 : Hid (R.Env w0 B w1) := HE0.out.next b1
    have hx1 := HK1.out _ _ HXW.out HNe.out (fun c fz h => by cases h)
    have p1_0 : w1.cell? ⟨w.heap.size, 0, none⟩ = some (.int .i64 4) := R.at_box hx1 rfl
    have p1_1 : w1.cell? ⟨w.heap.size, 1, none⟩ = some (.string pn) := R.at_box hx1 rfl
    have p1_2 : w1.cell? ⟨w.heap.size, 2, none⟩ = some (.slice so ps.length sc) := R.at_box hx1 rfl
    clear d1 b1 k1 hx1 HE0
    go_wp2_with fail
    refine (HNm.out _ _ HD1.out (by have := HLn.out; (try simp only [List.length_append, List.length_cons, List.length_nil]); omega)).mono ?_
    rintro e w2 ⟨rfl, d2, b2, k2⟩
    have HD2 : Hid (T.Bd B b ((t ++ ([58, 58] ++ [32])) ++ (pn.data.toList ++ [32])) w2) := d2
    have HB2 : Hid (Below B W w2) := HB1.out.trans b2
    have HK2 : Hid (Lib.OthersKept 5 (some b) W w2) := HK1.out.trans k2
    have HE2 : Hid (R.Env w0 B w2) := HE1.out.next b2
    have hx2 := HK2.out _ _ HXW.out HNe.out (fun c fz h => by cases h)
    have p2_0 : w2.cell? ⟨w.heap.size, 0, none⟩ = some (.int .i64 4) := R.at_box hx2 rfl
    have p2_1 : w2.cell? ⟨w.heap.size, 1, none⟩ = some (.string pn) := R.at_box hx2 rfl
    have p2_2 : w2.cell? ⟨w.heap.size, 2, none⟩ = some (.slice so ps.length sc) := R.at_box hx2 rfl
    clear d2 b2 k2 hx2 HE1
    go_wp2
    go_end0
    refine ⟨rfl, ?_, (HBW.out.mono HBN.out).trans HB2.out, (kept_below HBW.out).trans HK2.out⟩
    have h := HD2.out
    rw [← HW0.out]
    simp only [List.append_assoc, List.cons_append, List.nil_append] at h ⊢
    exact h
  · obtain ⟨hdir, hzl, hzr, _⟩ := R.ruleE_zero hrl
    simp only at hzl hzr
    have HLok : Hid (R.sideE pl (decide (pd ≠ 2)) = 0) := hzl
    have HRok : Hid (R.sideE pr (decide (pd ≠ 1)) = 0) := hzr
    clear hzl hzr hdir hrl
    obtain ⟨sl, HSL⟩ : ∃ x, Hid (R.sideB pl = x) := ⟨_, rfl⟩
    obtain ⟨sr, HSR⟩ : ∃ x, Hid (R.sideB pr = x) := ⟨_, rfl⟩
    obtain ⟨ad, HAD⟩ : ∃ x, Hid (R.arrowB pd = x) := ⟨_, rfl⟩
    rw [HSL.out] at HL
    rw [HSR.out] at HR
    have HAr : Hid (∀ w1, Calls Tryz.prog 37 #[.int .i64 pd] w1 fun e w' => e = .returned (.string ⟨ad.toArray⟩) ∧ w' = w1) := fun w1 => by have h := arrow_any pd w1; rw [HAD.out] at h; exact h
    obtain ⟨lst, lfi, lbe, lsr, laf, lcu⟩ := pl
    obtain ⟨rst, rfi, rbe, rsr, raf, rcu⟩ := pr
    simp only at HL HR ⊢
    have HW0 : Hid (sl ++ (ad ++ [32]) ++ sr = o) := by
      show _ = _
      rw [← HO.out]
      rw [← HSL.out, ← HSR.out, ← HAD.out]; simp [R.wordsB]
    have HLn : Hid (t.length + sl.length + ad.length + 1 + sr.length ≤ 1000000000) := by
      have h := HLen.out
      rw [← HW0.out] at h
      simp only [List.length_append, List.length_cons, List.length_nil] at h
      show _ ≤ _
      omega
    go_enter Tryz.func19, Tryz.ntmps19
    go_wp2_with fail
    have HBW : Hid (Below w.heap.size w (w.alloc (.cells #[.int .i64 2, .string pn, .slice so ps.length sc, .int .i64 pd, .bool lst, .bool lfi, .slice lbo lbe.length lbc, .slice lso lsr.length lsc, .slice lao laf.length lac, .int .i64 lcu, .bool rst, .bool rfi, .slice rbo rbe.length rbc, .slice rso rsr.length rsc, .slice rao raf.length rac, .int .i64 rcu] 49))) := HA.out _
    have HXW : Hid ((w.alloc (.cells #[.int .i64 2, .string pn, .slice so ps.length sc, .int .i64 pd, .bool lst, .bool lfi, .slice lbo lbe.length lbc, .slice lso lsr.length lsc, .slice lao laf.length lac, .int .i64 lcu, .bool rst, .bool rfi, .slice rbo rbe.length rbc, .slice rso rsr.length rsc, .slice rao raf.length rac, .int .i64 rcu] 49)).heap[w.heap.size]? = some (.cells #[.int .i64 2, .string pn, .slice so ps.length sc, .int .i64 pd, .bool lst, .bool lfi, .slice lbo lbe.length lbc, .slice lso lsr.length lsc, .slice lao laf.length lac, .int .i64 lcu, .bool rst, .bool rfi, .slice rbo rbe.length rbc, .slice rso rsr.length rsc, .slice rao raf.length rac, .int .i64 rcu] 49)) := heap_alloc_new w _
    have HD0 : Hid (T.Bd B b t (w.alloc (.cells #[.int .i64 2, .string pn, .slice so ps.length sc, .int .i64 pd, .bool lst, .bool lfi, .slice lbo lbe.length lbc, .slice lso lsr.length lsc, .slice lao laf.length lac, .int .i64 lcu, .bool rst, .bool rfi, .slice rbo rbe.length rbc, .slice rso rsr.length rsc, .slice rao raf.length rac, .int .i64 rcu] 49))) := HBd.out.below HBW.out
    have HE0 : Hid (R.Env w0 B (w.alloc (.cells #[.int .i64 2, .string pn, .slice so ps.length sc, .int .i64 pd, .bool lst, .bool lfi, .slice lbo lbe.length lbc, .slice lso lsr.length lsc, .slice lao laf.length lac, .int .i64 lcu, .bool rst, .bool rfi, .slice rbo rbe.length rbc, .slice rso rsr.length rsc, .slice rao raf.length rac, .int .i64 rcu] 49))) := HE.out.after HBW.out
    refine (HL.out _ _ HE0.out ⟨_, HLok.out⟩ HD0.out (by have := HLn.out; (try simp only [List.length_append, List.length_cons, List.length_nil]); omega)).mono ?_
    generalize w.alloc (.cells #[.int .i64 2, .string pn, .slice so ps.length sc, .int .i64 pd, .bool lst, .bool lfi, .slice lbo lbe.length lbc, .slice lso lsr.length lsc, .slice lao laf.length lac, .int .i64 lcu, .bool rst, .bool rfi, .slice rbo rbe.length rbc, .slice rso rsr.length rsc, .slice rao raf.length rac, .int .i64 rcu] 49) = W at HBW HXW HD0 HE0
    rintro e w1 ⟨rfl, d1, b1, k1⟩
    have HD1 : Hid (T.Bd B b (t ++ sl) w1) := d1
    have HB1 : Hid (Below B W w1) := b1
    have HK1 : Hid (Lib.OthersKept 5 (some b) W w1) := k1
    have HE1 : Hid (R.Env w0 B w1) := HE0.out.next b1
    have hx1 := HK1.out _ _ HXW.out HNe.out (fun c fz h => by cases h)
    have p1_0 : w1.cell? ⟨w.heap.size, 0, none⟩ = some (.int .i64 2) := R.at_box hx1 rfl
    have p1_1 : w1.cell? ⟨w.heap.size, 1, none⟩ = some (.string pn) := R.at_box hx1 rfl
    have p1_2 : w1.cell? ⟨w.heap.size, 2, none⟩ = some (.slice so ps.length sc) := R.at_box hx1 rfl
    have p1_3 : w1.cell? ⟨w.heap.size, 3, none⟩ = some (.int .i64 pd) := R.at_box hx1 rfl
    have p1_4 : w1.cell? ⟨w.heap.size, 4, none⟩ = some (.bool lst) := R.at_box hx1 rfl
    have p1_5 : w1.cell? ⟨w.heap.size, 5, none⟩ = some (.bool lfi) := R.at_box hx1 rfl
    have p1_6 : w1.cell? ⟨w.heap.size, 6, none⟩ = some (.slice lbo lbe.length lbc) := R.at_box hx1 rfl
    have p1_7 : w1.cell? ⟨w.heap.size, 7, none⟩ = some (.slice lso lsr.length lsc) := R.at_box hx1 rfl
    have p1_8 : w1.cell? ⟨w.heap.size, 8, none⟩ = some (.slice lao laf.length lac) := R.at_box hx1 rfl
    have p1_9 : w1.cell? ⟨w.heap.size, 9, none⟩ = some (.int .i64 lcu) := R.at_box hx1 rfl
    have p1_10 : w1.cell? ⟨w.heap.size, 10, none⟩ = some (.bool rst) := R.at_box hx1 rfl
    have p1_11 : w1.cell? ⟨w.heap.size, 11, none⟩ = some (.bool rfi) := R.at_box hx1 rfl
    have p1_12 : w1.cell? ⟨w.heap.size, 12, none⟩ = some (.slice rbo rbe.length rbc) := R.at_box hx1 rfl
    have p1_13 : w1.cell? ⟨w.heap.size, 13, none⟩ = some (.slice rso rsr.length rsc) := R.at_box hx1 rfl
    have p1_14 : w1.cell? ⟨w.heap.size, 14, none⟩ = some (.slice rao raf.length rac) := R.at_box hx1 rfl
    have p1_15 : w1.cell? ⟨w.heap.size, 15, none⟩ = some (.int .i64 rcu) := R.at_box hx1 rfl
    clear d1 b1 k1 hx1 HE0
    go_wp2_with fail
    refine (HAr.out _).mono ?_
    rintro e w2 ⟨rfl, rfl⟩
    have HD2 : Hid (T.Bd B b (t ++ sl) w2) := HD1.out
    have HB2 : Hid (Below B W w2) := HB1.out
    have HK2 : Hid (Lib.OthersKept 5 (some b) W w2) := HK1.out
    have HE2 : Hid (R.Env w0 B w2) := HE1.out
    clear HE1 HB1 HK1 HD1
    go_wp2_with fail
    refine (HWd.out _ _ ad HD2.out (by have := HLn.out; (try simp only [List.length_append, List.length_cons, List.length_nil]); omega)).mono ?_
    rintro e w3 ⟨rfl, d3, b3, k3⟩
    have HD3 : Hid (T.Bd B b ((t ++ sl) ++ (ad ++ [32])) w3) := d3
    have HB3 : Hid (Below B W w3) := HB2.out.trans b3
    have HK3 : Hid (Lib.OthersKept 5 (some b) W w3) := HK2.out.trans k3
    have HE3 : Hid (R.Env w0 B w3) := HE2.out.next b3
    have hx3 := HK3.out _ _ HXW.out HNe.out (fun c fz h => by cases h)
    have p3_0 : w3.cell? ⟨w.heap.size, 0, none⟩ = some (.int .i64 2) := R.at_box hx3 rfl
    have p3_1 : w3.cell? ⟨w.heap.size, 1, none⟩ = some (.string pn) := R.at_box hx3 rfl
    have p3_2 : w3.cell? ⟨w.heap.size, 2, none⟩ = some (.slice so ps.length sc) := R.at_box hx3 rfl
    have p3_3 : w3.cell? ⟨w.heap.size, 3, none⟩ = some (.int .i64 pd) := R.at_box hx3 rfl
    have p3_4 : w3.cell? ⟨w.heap.size, 4, none⟩ = some (.bool lst) := R.at_box hx3 rfl
    have p3_5 : w3.cell? ⟨w.heap.size, 5, none⟩ = some (.bool lfi) := R.at_box hx3 rfl
    have p3_6 : w3.cell? ⟨w.heap.size, 6, none⟩ = some (.slice lbo lbe.length lbc) := R.at_box hx3 rfl
    have p3_7 : w3.cell? ⟨w.heap.size, 7, none⟩ = some (.slice lso lsr.length lsc) := R.at_box hx3 rfl
    have p3_8 : w3.cell? ⟨w.heap.size, 8, none⟩ = some (.slice lao laf.length lac) := R.at_box hx3 rfl
    have p3_9 : w3.cell? ⟨w.heap.size, 9, none⟩ = some (.int .i64 lcu) := R.at_box hx3 rfl
    have p3_10 : w3.cell? ⟨w.heap.size, 10, none⟩ = some (.bool rst) := R.at_box hx3 rfl
    have p3_11 : w3.cell? ⟨w.heap.size, 11, none⟩ = some (.bool rfi) := R.at_box hx3 rfl
    have p3_12 : w3.cell? ⟨w.heap.size, 12, none⟩ = some (.slice rbo rbe.length rbc) := R.at_box hx3 rfl
    have p3_13 : w3.cell? ⟨w.heap.size, 13, none⟩ = some (.slice rso rsr.length rsc) := R.at_box hx3 rfl
    have p3_14 : w3.cell? ⟨w.heap.size, 14, none⟩ = some (.slice rao raf.length rac) := R.at_box hx3 rfl
    have p3_15 : w3.cell? ⟨w.heap.size, 15, none⟩ = some (.int .i64 rcu) := R.at_box hx3 rfl
    clear d3 b3 k3 hx3 HE2
    go_wp2_with fail
    refine (HR.out _ _ HE3.out ⟨_, HRok.out⟩ HD3.out (by have := HLn.out; (try simp only [List.length_append, List.length_cons, List.length_nil]); omega)).mono ?_
    rintro e w4 ⟨rfl, d4, b4, k4⟩
    have HD4 : Hid (T.Bd B b (((t ++ sl) ++ (ad ++ [32])) ++ sr) w4) := d4
    have HB4 : Hid (Below B W w4) := HB3.out.trans b4
    have HK4 : Hid (Lib.OthersKept 5 (some b) W w4) := HK3.out.trans k4
    have HE4 : Hid (R.Env w0 B w4) := HE3.out.next b4
    have hx4 := HK4.out _ _ HXW.out HNe.out (fun c fz h => by cases h)
    have p4_0 : w4.cell? ⟨w.heap.size, 0, none⟩ = some (.int .i64 2) := R.at_box hx4 rfl
    have p4_1 : w4.cell? ⟨w.heap.size, 1, none⟩ = some (.string pn) := R.at_box hx4 rfl
    have p4_2 : w4.cell? ⟨w.heap.size, 2, none⟩ = some (.slice so ps.length sc) := R.at_box hx4 rfl
    have p4_3 : w4.cell? ⟨w.heap.size, 3, none⟩ = some (.int .i64 pd) := R.at_box hx4 rfl
    have p4_4 : w4.cell? ⟨w.heap.size, 4, none⟩ = some (.bool lst) := R.at_box hx4 rfl
    have p4_5 : w4.cell? ⟨w.heap.size, 5, none⟩ = some (.bool lfi) := R.at_box hx4 rfl
    have p4_6 : w4.cell? ⟨w.heap.size, 6, none⟩ = some (.slice lbo lbe.length lbc) := R.at_box hx4 rfl
    have p4_7 : w4.cell? ⟨w.heap.size, 7, none⟩ = some (.slice lso lsr.length lsc) := R.at_box hx4 rfl
    have p4_8 : w4.cell? ⟨w.heap.size, 8, none⟩ = some (.slice lao laf.length lac) := R.at_box hx4 rfl
    have p4_9 : w4.cell? ⟨w.heap.size, 9, none⟩ = some (.int .i64 lcu) := R.at_box hx4 rfl
    have p4_10 : w4.cell? ⟨w.heap.size, 10, none⟩ = some (.bool rst) := R.at_box hx4 rfl
    have p4_11 : w4.cell? ⟨w.heap.size, 11, none⟩ = some (.bool rfi) := R.at_box hx4 rfl
    have p4_12 : w4.cell? ⟨w.heap.size, 12, none⟩ = some (.slice rbo rbe.length rbc) := R.at_box hx4 rfl
    have p4_13 : w4.cell? ⟨w.heap.size, 13, none⟩ = some (.slice rso rsr.length rsc) := R.at_box hx4 rfl
    have p4_14 : w4.cell? ⟨w.heap.size, 14, none⟩ = some (.slice rao raf.length rac) := R.at_box hx4 rfl
    have p4_15 : w4.cell? ⟨w.heap.size, 15, none⟩ = some (.int .i64 rcu) := R.at_box hx4 rfl
    clear d4 b4 k4 hx4 HE3
    go_wp2
    go_end0
    refine ⟨rfl, ?_, (HBW.out.mono HBN.out).trans HB4.out, (kept_below HBW.out).trans HK4.out⟩
    have h := HD4.out
    rw [← HW0.out]
    simp only [List.append_assoc, List.cons_append, List.nil_append] at h ⊢
    exact h

end Go.Proofs.YtajbcgobfkaahaaGreatDoor
