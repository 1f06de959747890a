/-
  How parts are written: package rulesyn's words.
-/
import Derived.Test.YtafkfnkcabahnaaDoorRWrong3
import Derived.Test.YtafkfnkcabahnaaDoorTPrint
namespace Go.Proofs.YtafkfnkcabahnaaDoor
open Go.RowKit
set_option maxRecDepth 20000
set_option linter.unusedSimpArgs false
set_option linter.unusedVariables false

theorem kept_below {e : TypeId} {b : Option Nat} {w w' : World} (h : Below w.heap.size w w') : Lib.OthersKept e b w w' := fun k o hk _ _ => by
  rw [h.block k (Array.getElem?_eq_some_iff.1 hk).1]; exact hk

/-- the world in which the arguments were laid, the builder's base, and now -/
structure R.Env (w0 : World) (B : Nat) (w : World) : Prop where
  tz : T.Tz w0
  le : w0.heap.size ≤ B
  bel : Below w0.heap.size w0 w
  now : B ≤ w.heap.size
theorem R.Env.next {w0 w w' : World} {B : Nat} (h : R.Env w0 B w) (hb : Below B w w') : R.Env w0 B w' := ⟨h.tz, h.le, h.bel.trans (hb.mono h.le), Nat.le_trans h.now hb.size⟩
theorem R.Env.tzw {w0 w : World} {B : Nat} (h : R.Env w0 B w) : T.Tz w := h.tz.below h.bel h.tz.lt
theorem R.Env.after {w0 w w' : World} {B : Nat} (h : R.Env w0 B w) (hb : Below w.heap.size w w') : R.Env w0 B w' := h.next (hb.mono h.now)

/-- what was told: the builder holds l, and nothing else has changed -/
def R.Told (B b : Nat) (l : List UInt8) (w : World) (e : Ending) (w' : World) : Prop :=
  e = .returned (.tuple #[]) ∧ T.Bd B b l w' ∧ Below B w w' ∧ Lib.OthersKept 5 (some b) w w'

theorem setText_any (w : World) (v : Value) (l : List S.Sp) (R0 : S.Rd w v l) (hf : S.Fit l) (hT : T.Tz w) :
    Calls Tryd.prog 18 #[v] w fun e w' => e = .returned (.string ⟨(R.setB l).toArray⟩) ∧ Below w.heap.size w w' := by
  have HP : Hid (Calls Tryd.prog 34 #[v] w fun e w' => e = .returned (T.prE l) ∧ Below w.heap.size w w') := print_any w v l R0 hf hT
  obtain ⟨ao, cap, rfl⟩ := R0.len
  have he : T.prE l = .tuple #[.string ⟨(R.setB l).toArray⟩, .int .i64 (S.wrongE l)] := rfl
  rw [he] at HP
  generalize (⟨(R.setB l).toArray⟩ : ByteArray) = s at *
  generalize S.wrongE l = z at *
  clear R0 hf hT he
  go_enter Tryd.func18, Tryd.ntmps18
  go_wp2_with fail
  refine HP.out.mono ?_
  rintro e w1 ⟨rfl, b1⟩
  go_wp2
  go_ret
  exact ⟨rfl, b1⟩

theorem dollar (n : ByteArray) : (⟨#[36]⟩ : ByteArray) ++ n = ⟨(36 :: n.data.toList).toArray⟩ := by
  apply ByteArray.ext
  apply Array.toList_inj.1
  simp
theorem named_small {n : ByteArray} (h : R.named n = true) : 1 ≤ n.size ∧ n.size ≤ 20 := by
  unfold R.named at h
  simp only [Bool.and_eq_true, decide_eq_true_eq] at h
  omega
theorem item_ok {x : R.Item} (h : R.itemE x = 0) : (x.kind = 1 ∧ M.right x.rune = true) ∨ (x.kind = 2 ∧ S.wrongE x.set = 0) ∨ (x.kind = 3 ∧ R.named x.name = true) := by
  unfold R.itemE at h
  split at h
  · rename_i h1
    split at h
    · rename_i h2; exact .inl ⟨h1, h2⟩
    · cases h
  · split at h
    · rename_i h1; exact .inr (.inl ⟨h1, h⟩)
    · split at h
      · rename_i h1
        split at h
        · rename_i h2; exact .inr (.inr ⟨h1, h2⟩)
        · cases h
      · cases h

set_option maxHeartbeats 2000000 in
theorem itemText_any (w : World) (x : R.Item) (so : Option Addr) (sc : Nat) (R0 : S.Rd w (.slice so x.set.length sc) x.set) (hf : S.Fit x.set) (hx : R.itemE x = 0) (hT : T.Tz w) :
    Calls Tryd.prog 48 #[.agg #[.int .i64 x.kind, .int .i32 x.rune, .slice so x.set.length sc, .string x.name]] w fun e w' => e = .returned (.string ⟨(R.itemB x).toArray⟩) ∧ Below w.heap.size w w' := by
  have ho := item_ok hx
  obtain ⟨k, r, s, n⟩ := x
  simp only at R0 hf ho ⊢
  have HA : Hid (∀ o, Below w.heap.size w (w.alloc o)) := fun o => (Below.refl _ w).alloc (Nat.le_refl _) o
  have HS : Hid (∀ o, Calls Tryd.prog 18 #[.slice so s.length sc] (w.alloc o) fun e w' => e = .returned (.string ⟨(R.setB s).toArray⟩) ∧ Below (w.alloc o).heap.size (w.alloc o) w') := fun o =>
    setText_any _ _ s (R.rd_keeps R0 (R.Keeps.alloc w o)) hf (hT.below (HA.out o) hT.lt)
  have HT : Hid (∀ o, T.Tz (w.alloc o)) := fun o => hT.below (HA.out o) hT.lt
  clear R0 hf hx hT
  rcases ho with ⟨rfl, hr⟩ | ⟨rfl, hw⟩ | ⟨rfl, hn⟩
  · have hb : 0 ≤ r ∧ r ≤ 1114111 := by unfold M.right at hr; have := of_decide_eq_true hr; omega
    have e1 : R.itemB ⟨1, r, s, n⟩ = T.quo r := by simp [R.itemB]
    rw [e1]
    generalize hq : (⟨(T.quo r).toArray⟩ : ByteArray) = t
    have HQ : Hid (∀ o, Calls Tryd.prog 47 #[.int .i32 r] (w.alloc o) fun e w' => e = .returned (.string t) ∧ Below (w.alloc o).heap.size (w.alloc o) w') := fun o => by
      rw [← hq]; exact quote_any r hb.1 hb.2 _ (HT.out o)
    clear hq e1
    go_enter Tryd.func48, Tryd.ntmps48
    go_wp2_with fail
    refine (HQ.out _).mono ?_
    rintro e w1 ⟨rfl, b1⟩
    obtain ⟨_, B1, _⟩ := R.box_kept b1
    have HB1 : Hid (Below w.heap.size w w1) := B1
    clear b1 B1
    go_wp2
    go_ret
    exact ⟨rfl, HB1.out⟩
  · have e1 : R.itemB ⟨2, r, s, n⟩ = R.setB s := by simp [R.itemB]
    rw [e1]
    generalize (⟨(R.setB s).toArray⟩ : ByteArray) = t at *
    clear e1
    go_enter Tryd.func48, Tryd.ntmps48
    go_wp2_with fail
    refine (HS.out _).mono ?_
    rintro e w1 ⟨rfl, b1⟩
    obtain ⟨_, B1, _⟩ := R.box_kept b1
    have HB1 : Hid (Below w.heap.size w w1) := B1
    clear b1 B1
    go_wp2
    go_ret
    exact ⟨rfl, HB1.out⟩
  · have e1 : R.itemB ⟨3, r, s, n⟩ = 36 :: n.data.toList := by simp [R.itemB]
    have hn2 := named_small hn
    rw [e1, ← dollar]
    have g1 : ¬ 9223372036854775807 < 1 + n.size := by omega
    go_enter Tryd.func48, Tryd.ntmps48
    go_wp2
    go_ret
    exact ⟨rfl, HA.out _⟩

theorem arrow_any (d : Int) (w : World) :
    Calls Tryd.prog 20 #[.int .i64 d] w fun e w' => e = .returned (.string ⟨(R.arrowB d).toArray⟩) ∧ w' = w := by
  unfold R.arrowB
  by_cases h1 : d = 1
  · subst h1
    go_enter Tryd.func20, Tryd.ntmps20
    go_wp2
    go_ret
    exact ⟨rfl, rfl⟩
  · by_cases h2 : d = 2
    · subst h2
      go_enter Tryd.func20, Tryd.ntmps20
      go_wp2
      go_ret
      exact ⟨rfl, rfl⟩
    · rw [if_neg h1, if_neg h2]
      go_enter Tryd.func20, Tryd.ntmps20
      go_wp2
      go_ret
      exact ⟨rfl, rfl⟩

/-- a word, and a blank behind it -/
theorem word_any (B b : Nat) (l m : List UInt8) (w : World) (h : T.Bd B b l w) (hl : l.length + m.length ≤ 1000000000) :
    Calls Tryd.prog 8 #[.string ⟨m.toArray⟩, .pointer (some ⟨b, 0, none⟩)] w (R.Told B b (l ++ (m ++ [32])) w) := by
  have HW : Hid (Calls Tryd.prog 9 #[.pointer (some ⟨b, 0, none⟩), .string ⟨m.toArray⟩] w fun e w' => (∃ v, e = .returned v) ∧ T.Bd B b (l ++ m) w' ∧ Below B w w' ∧ Lib.OthersKept 5 (some b) w w') := bd_string B b l m w h (by omega)
  have HB : Hid (∀ w1, T.Bd B b (l ++ m) w1 → Calls Tryd.prog 10 #[.pointer (some ⟨b, 0, none⟩), .int .u8 32] w1 fun e w' => e = .returned .nilIface ∧ T.Bd B b ((l ++ m) ++ [32]) w' ∧ Below B w1 w' ∧ Lib.OthersKept 5 (some b) w1 w') := fun w1 h1 => bd_byte B b _ 32 32 rfl w1 h1 (by rw [List.length_append]; omega)
  generalize (⟨m.toArray⟩ : ByteArray) = s at *
  clear h hl
  go_enter Tryd.func8, Tryd.ntmps8
  go_wp2_with fail
  refine HW.out.mono ?_
  rintro e w1 ⟨⟨v1, rfl⟩, d1, b1, k1⟩
  go_wp2_with fail
  refine (HB.out w1 d1).mono ?_
  rintro e w2 ⟨rfl, d2, b2, k2⟩
  go_wp2
  go_end0
  rw [List.append_assoc] at d2
  exact ⟨rfl, d2, b1.trans b2, k1.trans k2⟩

theorem itemsB_drop {l : List R.Item} {k : Nat} {x : R.Item} {c : Int} (hx : l[k]? = some x) : R.itemsB (l.drop k) (c - k) = (if (k : Int) = c then R.bar else []) ++ (R.itemB x ++ [32]) ++ R.itemsB (l.drop (k + 1)) (c - (k + 1 : Nat)) := by
  have hlt := (List.getElem?_eq_some_iff.1 hx).1
  rw [List.drop_eq_getElem_cons hlt]
  have : l[k] = x := by rw [List.getElem?_eq_getElem hlt] at hx; exact Option.some.inj hx
  rw [this, R.itemsB]
  have e : c - ((k + 1 : Nat) : Int) = c - k - 1 := by omega
  rw [e]
  by_cases h : (k : Int) = c
  · rw [if_pos h, if_pos (by omega)]
  · rw [if_neg h, if_neg (by omega)]

set_option maxHeartbeats 4000000 in
theorem tellItems_any (w0 : World) (B b : Nat) (w : World) (v : Value) (l : List R.Item) (c : Int) (t : List UInt8) (E : R.Env w0 B w) (R0 : R.Its w0 v l) (hl : l.length ≤ 20) (hok : ∀ x ∈ l, R.itemE x = 0) (hb : T.Bd B b t w) (hc : -1 ≤ c) (hlen : t.length + (R.itemsB l c).length ≤ 1000000000) :
    Calls Tryd.prog 35 #[v, .int .i64 c, .func (.func 8) #[] #[.pointer (some ⟨b, 0, none⟩)]] w (R.Told B b (t ++ R.itemsB l c) w) := by
  have eg : ∀ args w, (callFunc 8 args).run Tryd.prog w = .ok (.enter 8 args) w := enters_of Tryd.func8 (by kernel_rfl) rfl
  have HR : Hid (R.Its w0 v l) := R0
  obtain ⟨ao, cap, rfl⟩ := R0.len
  have HE : Hid (R.Env w0 B w) := E
  have HBd : Hid (T.Bd B b t w) := hb
  have HOk : Hid (∀ x ∈ l, R.itemE x = 0) := hok
  obtain ⟨o, HO⟩ : ∃ o, Hid (R.itemsB l c = o) := ⟨_, rfl⟩
  rw [HO.out] at hlen ⊢
  have HLen : Hid (t.length + o.length ≤ 1000000000) := hlen
  clear R0 E hb hok hlen
  go_enter Tryd.func35, Tryd.ntmps35
  go_wp2
  go_loopw [10] (fun i wr => ∃ (k : Nat) (m : List UInt8), k ≤ l.length ∧ i = .int .i64 k ∧ Hid (m ++ R.itemsB (l.drop k) (c - k) = o) ∧ Hid (T.Bd B b (t ++ m) wr) ∧ Hid (Below B w wr) ∧ Hid (Lib.OthersKept 5 (some b) w wr)) (fun i _ => l.length - (intOf i).toNat)
  case atStart => exact ⟨0, [], Nat.zero_le _, rfl, by show _ = _; rw [← HO.out]; simp, by show T.Bd B b (t ++ []) w; rw [List.append_nil]; exact HBd.out, Below.refl _ _, Lib.OthersKept.refl _ _ _⟩
  case round =>
    obtain ⟨k, m, hk, rfl, HM, HD, HB, HK⟩ := hrel
    have HEr : Hid (R.Env w0 B wr) := HE.out.next HB.out
    by_cases hlt : k < l.length
    · obtain ⟨x, hx⟩ : ∃ x, l[k]? = some x := ⟨l[k], by simp [hlt]⟩
      obtain ⟨ao', cap', e', hcs⟩ := HR.out
      cases e'
      obtain ⟨bb, off, rfl, hcell⟩ := hcs (by intro h; subst h; simp at hlt)
      obtain ⟨c0, c1, c3, ⟨so, sc, c2, r2⟩, hf, _⟩ := hcell k x hx
      have kk := R.Keeps.of_below HEr.out.bel (Nat.le_refl _)
      replace c0 := kk _ _ _ c0
      replace c1 := kk _ _ _ c1
      replace c2 := kk _ _ _ c2
      replace c3 := kk _ _ _ c3
      clear kk
      have hix := HOk.out x (List.mem_of_getElem? hx)
      have HS := itemsB_drop (c := c) hx
      have HTx : Hid (∀ w1, R.Env w0 B w1 → Calls Tryd.prog 48 #[.agg #[.int .i64 x.kind, .int .i32 x.rune, .slice so x.set.length sc, .string x.name]] w1 fun e w' => e = .returned (.string ⟨(R.itemB x).toArray⟩) ∧ Below w1.heap.size w1 w') := fun w1 h1 => itemText_any w1 x so sc (r2.below h1.bel (Nat.le_refl _)) hf hix h1.tzw
      rw [HS] at HM
      have HM1 : Hid (m ++ ((if (k : Int) = c then R.bar else []) ++ (R.itemB x ++ [32]) ++ R.itemsB (l.drop (k + 1)) (c - (k + 1 : Nat))) = o) := HM
      clear HM HS hx hcell hcs r2 hf hix
      obtain ⟨ib, HIB⟩ : ∃ ib, Hid (R.itemB x = ib) := ⟨_, rfl⟩
      rw [HIB.out] at HTx HM1
      obtain ⟨rest, HRe⟩ : ∃ r, Hid (R.itemsB (l.drop (k + 1)) (c - (k + 1 : Nat)) = r) := ⟨_, rfl⟩
      rw [HRe.out] at HM1
      have HL1 : Hid (((k : Int) = c → t.length + m.length + 2 + ib.length + 1 ≤ 1000000000) ∧ t.length + m.length + ib.length + 1 ≤ 1000000000) := by
        have h1 := congrArg List.length HM1.out
        have h2 := HLen.out
        simp only [List.length_append, List.length_singleton] at h1
        refine ⟨fun hk => ?_, by omega⟩
        rw [if_pos hk] at h1
        simp only [R.bar, List.length_cons, List.length_nil] at h1
        omega
      obtain ⟨xk, xr, xs, xn⟩ := x
      simp only at c0 c1 c2 c3 HTx
      have bW := (Below.refl _ wr).alloc (Nat.le_refl _) (.cells #[.int .i64 xk, .int .i32 xr, .slice so xs.length sc, .string xn] 71)
      have hxW : (wr.alloc (.cells #[.int .i64 xk, .int .i32 xr, .slice so xs.length sc, .string xn] 71)).heap[wr.heap.size]? = some (.cells #[.int .i64 xk, .int .i32 xr, .slice so xs.length sc, .string xn] 71) := heap_alloc_new wr _
      have HDW : Hid (T.Bd B b (t ++ m) (wr.alloc (.cells #[.int .i64 xk, .int .i32 xr, .slice so xs.length sc, .string xn] 71))) := HD.out.below bW
      have HBW : Hid (Below wr.heap.size wr (wr.alloc (.cells #[.int .i64 xk, .int .i32 xr, .slice so xs.length sc, .string xn] 71))) := bW
      have HXW : Hid _ := hxW
      have HNe : Hid (some wr.heap.size ≠ some b) := fun e => by
        have h1 := HD.out.1
        have h2 := Option.some.inj e
        rcases h1 with h | h <;> (have := h.lt; omega)
      have HBN : Hid (B ≤ wr.heap.size) := HEr.out.now
      clear bW hxW
      by_cases hkc : (k : Int) = c
      · subst hkc
        go_wp2_with fail
        refine (word_any B b _ [124] _ HDW.out (by have := HL1.out.1 (by trivial); simp only [List.length_append, List.length_singleton]; omega)).mono ?_
        generalize wr.alloc (.cells #[.int .i64 xk, .int .i32 xr, .slice so xs.length sc, .string xn] 71) = W at HDW HBW HXW
        rintro e w1 ⟨rfl, d1, b1, k1⟩
        have hx1 := k1 _ _ HXW.out HNe.out (fun c fz h => by cases h)
        have p0 := R.at_box (i := 0) hx1 rfl
        have p1 := R.at_box (i := 1) hx1 rfl
        have p2 := R.at_box (i := 2) hx1 rfl
        have p3 := R.at_box (i := 3) hx1 rfl
        have HD1 : Hid (T.Bd B b ((t ++ m) ++ ([124] ++ [32])) w1) := d1
        have HB1 : Hid (Below B wr w1) := (HBW.out.mono HBN.out).trans b1
        have HK1 : Hid (Lib.OthersKept 5 (some b) wr w1) := (kept_below HBW.out).trans k1
        have HT1 : Hid (Calls Tryd.prog 48 #[.agg #[.int .i64 xk, .int .i32 xr, .slice so xs.length sc, .string xn]] w1 fun e w' => e = .returned (.string ⟨ib.toArray⟩) ∧ Below w1.heap.size w1 w') := by
          exact HTx.out w1 (HEr.out.next HB1.out)
        clear d1 b1 k1 hx1 HXW HDW
        go_wp2_with fail
        refine HT1.out.mono ?_
        rintro e w2 ⟨rfl, b2⟩
        have HD2 := HD1.out.below b2
        have HD2' : Hid (T.Bd B b ((t ++ m) ++ ([124] ++ [32])) w2) := HD2
        have HB2 : Hid (Below B wr w2) := HB1.out.trans (b2.mono (Nat.le_trans HBN.out HB1.out.size))
        have HK2 : Hid (Lib.OthersKept 5 (some b) wr w2) := HK1.out.trans (kept_below b2)
        clear b2 HD2
        go_wp2_with fail
        refine (word_any B b _ ib _ HD2'.out (by have := HL1.out.1 (by trivial); simp only [List.length_append, List.length_singleton]; omega)).mono ?_
        rintro e w3 ⟨rfl, d3, b3, k3⟩
        have HD3 : Hid (T.Bd B b (((t ++ m) ++ ([124] ++ [32])) ++ (ib ++ [32])) w3) := d3
        have HB3 : Hid (Below B wr w3) := HB2.out.trans b3
        have HK3 : Hid (Lib.OthersKept 5 (some b) wr w3) := HK2.out.trans k3
        clear d3 b3 k3
        go_wp2
        go_roundw
        case rel =>
          refine ⟨k + 1, m ++ R.bar ++ (ib ++ [32]), by omega, by go_num, ?_, ?_, HB.out.trans HB3.out, HK.out.trans HK3.out⟩
          · show _ = _
            rw [HRe.out, ← HM1.out]; simp
          · show T.Bd B b _ w3
            have h := HD3.out
            unfold R.bar
            simp only [List.append_assoc, List.cons_append, List.nil_append] at h ⊢
            exact h
        case measure => simp [intOf]; omega
      · have hkc' : ((k : Int) == c) = false := by simp [hkc]
        go_wp2_with fail
        refine (HTx.out _ (HEr.out.after HBW.out)).mono ?_
        generalize wr.alloc (.cells #[.int .i64 xk, .int .i32 xr, .slice so xs.length sc, .string xn] 71) = W at HDW HBW HXW
        rintro e w2 ⟨rfl, b2⟩
        have HD2' : Hid (T.Bd B b (t ++ m) w2) := HDW.out.below b2
        have HB2 : Hid (Below B wr w2) := (HBW.out.mono HBN.out).trans (b2.mono (Nat.le_trans HBN.out HBW.out.size))
        have HK2 : Hid (Lib.OthersKept 5 (some b) wr w2) := (kept_below HBW.out).trans (kept_below b2)
        clear b2
        go_wp2_with fail
        refine (word_any B b _ ib _ HD2'.out (by have := HL1.out.2; simp only [List.length_append, List.length_singleton]; omega)).mono ?_
        rintro e w3 ⟨rfl, d3, b3, k3⟩
        have HD3 : Hid (T.Bd B b ((t ++ m) ++ (ib ++ [32])) w3) := d3
        have HB3 : Hid (Below B wr w3) := HB2.out.trans b3
        have HK3 : Hid (Lib.OthersKept 5 (some b) wr w3) := HK2.out.trans k3
        clear d3 b3 k3
        go_wp2
        go_roundw
        case rel =>
          refine ⟨k + 1, m ++ (ib ++ [32]), by omega, by go_num, ?_, ?_, HB.out.trans HB3.out, HK.out.trans HK3.out⟩
          · show _ = _
            rw [HRe.out, ← HM1.out, if_neg hkc]; simp
          · show T.Bd B b _ w3
            rw [← List.append_assoc]
            exact HD3.out
        case measure => simp [intOf]; omega
    · have hke : k = l.length := by omega
      have hm := HM.out
      rw [List.drop_eq_nil_of_le (by omega), R.itemsB] at hm
      by_cases hcl : c = (l.length : Int)
      · have hcl' : (c == (l.length : Int)) = true := by simp [hcl]
        rw [if_pos (by omega)] at hm
        have HM2 : Hid (m ++ R.bar = o) := hm
        clear hm
        go_wp2_with fail
        refine (word_any B b _ [124] _ HD.out (by
          have h1 := congrArg List.length HM2.out
          have h2 := HLen.out
          simp only [R.bar, List.length_append, List.length_cons, List.length_nil] at h1 ⊢
          omega)).mono ?_
        rintro e w3 ⟨rfl, d3, b3, k3⟩
        go_wp2
        go_end0
        refine ⟨rfl, ?_, HB.out.trans b3, HK.out.trans k3⟩
        rw [← HM2.out]
        unfold R.bar
        simp only [List.append_assoc, List.cons_append, List.nil_append] at d3 ⊢
        exact d3
      · have hcl' : (c == (l.length : Int)) = false := by simp [hcl]
        rw [if_neg (by omega), List.append_nil] at hm
        go_wp2
        go_end0
        refine ⟨rfl, ?_, HB.out, HK.out⟩
        rw [← hm]
        exact HD.out

end Go.Proofs.YtafkfnkcabahnaaDoor
