/-
  What setsyn.Read answers of any text.
-/
import Derived.Test.YtbepnmmcdllklaaDoorTSetAll
import Derived.Test.YtbepnmmcdllklaaDoorTDecode
import Derived.Defers
import Derived.Recover
namespace Go.Proofs.YtbepnmmcdllklaaDoor
open Go.RowKit
set_option maxRecDepth 20000

/-- how the reading of a whole text ends -/
def T.Done (w : World) (cb : Nat) (o : T.Out (List S.Sp)) (e : Ending) (w' : World) : Prop :=
  match o with
  | .ok t _ => ∃ v, e = .returned v ∧ T.isSet t v w' ∧ w.grownBy w' (some cb)
  | .bad er q => e = T.thrown er q ∧ w.grownBy w' (some cb)

set_option maxHeartbeats 4000000 in
theorem whole_any (hK : T.ClassOk) (w : World) (cb tb cap : Nat) (ao : Option Addr) (l : List Int) (C : T.Cur w cb tb cap ao l 0) :
    Calls Tryd.prog 31 #[.pointer (some ⟨cb, 0, none⟩)] w (T.Done w cb (T.whole l)) := by
  have HC : Hid (T.Cur w cb tb cap ao l 0) := C
  have HS : Hid (∀ w p, T.Cur w cb tb cap ao l p → Calls Tryd.prog 52 #[.pointer (some ⟨cb, 0, none⟩)] w (T.Ends w cb tb cap ao l (T.setN 20 l p) T.isSet)) := fun w p C => Set_any hK w cb tb cap p ao l C
  clear C
  obtain ⟨o, HO⟩ : ∃ o, Hid (T.whole l = o) := ⟨_, rfl⟩
  rw [HO.out]
  go_enter Tryd.func31, Tryd.ntmps31
  go_wp2_with fail
  refine (blanks_any _ cb tb cap 0 ao l HC.out).mono ?_
  rintro e w1 ⟨rfl, C1, g1⟩
  have HC1 : Hid (T.Cur w1 cb tb cap ao l (T.skipW T.blank l 0)) := C1
  have HG1 : Hid (w.grownBy w1 (some cb)) := g1
  clear C1 g1
  go_wp2_with fail
  refine (HS.out _ _ HC1.out).mono ?_
  intro e w2 h
  cases hc : T.setN 20 l (T.skipW T.blank l 0) with
  | bad er q =>
    rw [hc] at h
    obtain ⟨rfl, g2⟩ := h
    unfold T.thrown
    go_wp2
    refine ⟨rfl, ?_⟩
    rw [← HO.out]; unfold T.whole; rw [hc]
    exact ⟨rfl, S.grown_trans HG1.out g2⟩
  | ok t q =>
    rw [hc] at h
    obtain ⟨v2, rfl, hv2, C2, g2⟩ := h
    have HV2 : Hid (T.isSet t v2 w2) := hv2
    have HC2 : Hid (T.Cur w2 cb tb cap ao l q) := C2
    have HG2 : Hid (w.grownBy w2 (some cb)) := S.grown_trans HG1.out g2
    have HHc : Hid _ := hc
    obtain ⟨vo, vc, hv⟩ := hv2.1.len
    subst hv
    clear hc hv2 C2 g2
    go_wp2_with fail
    refine (blanks_any _ cb tb cap q ao l HC2.out).mono ?_
    rintro e w3 ⟨rfl, C3, g3⟩
    have HC3 : Hid (T.Cur w3 cb tb cap ao l (T.skipW T.blank l q)) := C3
    have HG3 : Hid (w.grownBy w3 (some cb)) := S.grown_trans HG2.out g3
    have HV3 : Hid (T.isSet t (.slice vo t.length vc) w3) := HV2.out.cur HC2.out g3
    clear C3 g3
    go_wp2_with fail
    refine (done_any _ cb tb cap _ ao l HC3.out).mono ?_
    rintro e w4 ⟨rfl, b4⟩
    have C4 := HC3.out.below b4
    have c4 := C4.cell1
    have HC4 : Hid (T.Cur w4 cb tb cap ao l (T.skipW T.blank l q)) := C4
    have HG4 : Hid (w.grownBy w4 (some cb)) := S.grown_trans HG3.out (S.grown_below b4)
    have HV4 : Hid (T.isSet t (.slice vo t.length vc) w4) := ⟨HV3.out.1.below b4 (Nat.le_refl _), HV3.out.2⟩
    clear C4 b4
    obtain ⟨k, HKk⟩ : ∃ k, Hid (T.skipW T.blank l q = k) := ⟨_, rfl⟩
    rw [HKk.out] at c4
    rw [HKk.out]
    by_cases he : T.see l k = -1
    · go_wp2
      go_ret
      rw [← HO.out]; unfold T.whole; rw [HHc.out]; simp only; rw [HKk.out, if_pos he]
      exact ⟨_, rfl, HV4.out, HG4.out⟩
    · go_wp2_with (go_at_call 30; refine (fail_any _ 2 k).mono ?_; unfold T.thrown; rintro e w5 ⟨rfl, rfl⟩)
      refine ⟨rfl, ?_⟩
      rw [← HO.out]; unfold T.whole; rw [HHc.out]; simp only; rw [HKk.out, if_neg he]
      exact ⟨rfl, HG4.out⟩

def T.faultV (er : Int) (q : Nat) : Value := .iface 29 (.agg #[.int .i64 er, .int .i64 q])

theorem assert_hit (x : Value) (w : World) : (Instr.typeAssert (.iface 29 x) 20 29 true).run Tryd.prog w = .ok (.tuple #[x, .bool true]) w := by kernel_rfl
theorem assert_nil (w : World) : (Instr.typeAssert .nilIface 20 29 true).run Tryd.prog w = .ok (.tuple #[.agg #[.int .i64 0, .int .i64 0], .bool false]) w := by kernel_rfl

set_option maxHeartbeats 4000000 in
theorem catch_thrown (bs bf : Nat) (er : Int) (q : Nat) (older : List PanicEntry) (w : World) (vs f1 f2 : Value) (hs : S.Bx w bs 22 vs) (hf : w.heap[bf]? = some (.cells #[f1, f2] 29)) (hne : bs ≠ bf) :
    CallsD Tryd.prog 28 #[.pointer (some ⟨bs, 0, none⟩), .pointer (some ⟨bf, 0, none⟩)] (.panicking ({ v := T.faultV er q, recovered := false } :: older)) w fun e u' w' =>
      e = .returned (.tuple #[]) ∧ u' = .panicking ({ v := T.faultV er q, recovered := true } :: older) ∧ S.Bx w' bs 22 (.slice none 0 0) ∧ w'.heap[bf]? = some (.cells #[.int .i64 er, .int .i64 q] 29) ∧ (∀ B, B ≤ bs → B ≤ bf → Below B w w') := by
  have hta : ∀ (x : Value) (w : World), (Instr.typeAssert (.iface 29 x) 20 29 true).run Tryd.prog w = .ok (.tuple #[x, .bool true]) w := fun x w => assert_hit x w
  have hrep : Array.replicate 9 undef = #[undef, undef, undef, undef, undef, undef, undef, undef, undef] := rfl
  refine callsD_of_wpS Tryd.func28 rfl fun c₀ cs hu => ?_
  apply wpS_seq
  apply wpS_region
  simp [wpOpsS, go_sem, recoverD, hu, Tryd.ntmps28, Exit.thenS, T.faultV, hrep, hta]
  refine wpS_of_wp ?_
  have bW := (Below.refl _ w).alloc (Nat.le_refl _) (.cells #[.int .i64 er, .int .i64 q] 29)
  have hx := box_cells (heap_alloc_new w (.cells #[.int .i64 er, .int .i64 q] 29))
  have hs' : S.Bx _ bs 22 vs := hs.below bW hs.lt
  have hf' : (w.alloc (.cells #[.int .i64 er, .int .i64 q] 29)).heap[bf]? = some (.cells #[f1, f2] 29) := by rw [bW.block bf (Array.getElem?_eq_some_iff.1 hf).1]; exact hf
  have hl1 := hs.lt
  have hl2 := (Array.getElem?_eq_some_iff.1 hf).1
  have n1 : ¬ w.heap.size = bs := by omega
  have n2 : ¬ w.heap.size = bf := by omega
  have hsc := hs'.cell
  have hsf := hs'.free
  have hfc := box_cells hf'
  have HS : Hid (S.Bx _ bs 22 vs) := hs'
  have HF : Hid _ := hf'
  have HB : Hid (∀ B, B ≤ w.heap.size → Below B w (w.alloc (.cells #[.int .i64 er, .int .i64 q] 29))) := fun B hB => bW.mono hB
  obtain ⟨x0, x1, _, _⟩ := hx
  obtain ⟨z0, z1, z2, z3⟩ := hfc
  generalize w.alloc (.cells #[.int .i64 er, .int .i64 q] 29) = W at *
  clear hs' hf' hs hf bW
  go_wp2
  go_region
  have hA1 := HS.out.set (.slice none 0 0)
  have hF1 : (W.setCell ⟨bs, 0, none⟩ (.slice none 0 0)).heap[bf]? = some (.cells #[f1, f2] 29) := by rw [heap_setCell_other _ ⟨bs, 0, none⟩ bf _ (Ne.symm hne)]; exact HF.out
  have hF2 := two_set _ bf f1 f2 (.int .i64 er) (.int .i64 q) 29 hF1
  have hA2 : S.Bx (((W.setCell ⟨bs, 0, none⟩ (.slice none 0 0)).setCell ⟨bf, 0, none⟩ (.int .i64 er)).setCell ⟨bf, 1, none⟩ (.int .i64 q)).drew bs 22 (.slice none 0 0) := by
    show _ = _
    show (((W.setCell ⟨bs, 0, none⟩ (.slice none 0 0)).setCell ⟨bf, 0, none⟩ (.int .i64 er)).setCell ⟨bf, 1, none⟩ (.int .i64 q)).heap[bs]? = _
    rw [heap_setCell_other _ ⟨bf, 1, none⟩ bs _ hne, heap_setCell_other _ ⟨bf, 0, none⟩ bs _ hne]
    exact hA1
  have hB2 : ∀ B, B ≤ bs → B ≤ bf → Below B w (((W.setCell ⟨bs, 0, none⟩ (.slice none 0 0)).setCell ⟨bf, 0, none⟩ (.int .i64 er)).setCell ⟨bf, 1, none⟩ (.int .i64 q)).drew := fun B h1 h2 => ((((HB.out B (by omega)).setCell (p := ⟨bs, 0, none⟩) h1 _).setCell (p := ⟨bf, 0, none⟩) h2 _).setCell (p := ⟨bf, 1, none⟩) h2 _).drew
  have hF3 : (((W.setCell ⟨bs, 0, none⟩ (.slice none 0 0)).setCell ⟨bf, 0, none⟩ (.int .i64 er)).setCell ⟨bf, 1, none⟩ (.int .i64 q)).drew.heap[bf]? = some (.cells #[.int .i64 er, .int .i64 q] 29) := hF2
  generalize (((W.setCell ⟨bs, 0, none⟩ (.slice none 0 0)).setCell ⟨bf, 0, none⟩ (.int .i64 er)).setCell ⟨bf, 1, none⟩ (.int .i64 q)).drew = X at hA2 hB2 hF3 ⊢
  change bodyPostS Tryd.prog Tryd.f28 c₀ cs _ Exit.normal _ _ X
  simp [bodyPostS, results, Tryd.results28]
  exact ⟨hA2, hF3, hB2⟩

set_option maxHeartbeats 4000000 in
theorem catch_idle (ps pf : Addr) (w : World) :
    CallsD Tryd.prog 28 #[.pointer (some ps), .pointer (some pf)] .returning w fun e u' w' =>
      e = .returned (.tuple #[]) ∧ u' = .returning ∧ ∃ o, w' = w.alloc o := by
  have hta : ∀ (w : World), (Instr.typeAssert .nilIface 20 29 true).run Tryd.prog w = .ok (.tuple #[.agg #[.int .i64 0, .int .i64 0], .bool false]) w := fun w => assert_nil w
  have hrep : Array.replicate 9 undef = #[undef, undef, undef, undef, undef, undef, undef, undef, undef] := rfl
  refine callsD_of_wpS Tryd.func28 rfl fun c₀ cs hu => ?_
  apply wpS_seq
  apply wpS_region
  simp [wpOpsS, go_sem, recoverD, hu, Tryd.ntmps28, Exit.thenS, hrep, hta]
  refine wpS_of_wp ?_
  go_wp2
  cases c₀
  simp_all [bodyPostS, results, Tryd.results28]
  exact ⟨_, rfl⟩

theorem rd_setCell {w : World} {v : Value} {s : List S.Sp} {a : Addr} {u : Value} (R : S.Rd w v s) (hu : w.cell? a = some u) (y : Value) (hne : ∀ z, u ≠ .int .i32 z) : S.Rd (w.setCell a y) v s := by
  obtain ⟨vo, vc, rfl, hn, h⟩ := R
  refine ⟨vo, vc, rfl, hn, fun hz => ?_⟩
  obtain ⟨b, off, rfl, hcl⟩ := h hz
  refine ⟨b, off, rfl, fun j x hj => ?_⟩
  have h1 := hcl j x hj
  constructor
  · rw [World.cell?_setCell_other _ _ _ _ (fun e => by rw [e, h1.1] at hu; exact hne _ (Option.some.inj hu).symm)]; exact h1.1
  · rw [World.cell?_setCell_other _ _ _ _ (fun e => by rw [e, h1.2] at hu; exact hne _ (Option.some.inj hu).symm)]; exact h1.2

/-- what Read answers -/
def T.readE (o : T.Out (List S.Sp)) (w : World) (e : Ending) (w' : World) : Prop :=
  match o with
  | .ok t _ => ∃ v, e = .returned (.tuple #[v, .agg #[.int .i64 0, .int .i64 0]]) ∧ T.isSet t v w' ∧ Below w.heap.size w w'
  | .bad er q => e = .returned (.tuple #[.slice none 0 0, .agg #[.int .i64 er, .int .i64 q]]) ∧ Below w.heap.size w w'

theorem ret_read {fn : Func} {p u : Tmp} (h : fn.results = #[.cell p 22, .cell u 29]) (tmps : Array Value) (w : World) (bs bf : Nat) (v y1 y2 : Value) (hs : S.Bx w bs 22 v) (hf : w.heap[bf]? = some (.cells #[y1, y2] 29))
    (hp : tmps.getD p undef = .pointer (some ⟨bs, 0, none⟩)) (hu : tmps.getD u undef = .pointer (some ⟨bf, 0, none⟩)) : (results fn tmps).run Tryd.prog w = .ok (.tuple #[v, .agg #[y1, y2]]) w := by
  have hl := run_loadVar_row (P := Tryd.prog) w bf 29 29 #[y1, y2] (0, 0) _ hf Tryd.underlying29 rfl (by kernel_rfl)
  have hc := hs.cell
  have hl2 : (loadVar 22 ⟨bs, 0, none⟩).run Tryd.prog w = .ok v w := by
    simp [go_sem, hc]
  have e : (results fn tmps).run Tryd.prog w = ((asAddr (tmps.getD p undef)).run Tryd.prog w).andThen fun a w₁ => ((loadVar 22 a).run Tryd.prog w₁).andThen fun x w₂ => ((asAddr (tmps.getD u undef)).run Tryd.prog w₂).andThen fun b w₃ => ((loadVar 29 b).run Tryd.prog w₃).andThen fun y w₄ => .ok (.tuple #[x, y]) w₄ := by
    simp only [results, h]
    simp [Sem.run_bind, Result.andThen]
  rw [e, hp, hu]
  simp [asAddr, Result.andThen, hl, hl2]

set_option maxHeartbeats 8000000 in
theorem read_any (hK : T.ClassOk) (s : ByteArray) (hs : s.size ≤ 1099511627776) (w : World) :
    Calls Tryd.prog 11 #[.string s] w (T.readE (T.read (M.rn s)) w) := by
  have hmf : ∀ (fn : Fn) (first cap : Array Value) (w : World), (Instr.makeFunc fn first cap).run Tryd.prog w = .ok (.func fn first cap) w := fun _ _ _ _ => rfl
  obtain ⟨o, HO⟩ : ∃ o, Hid (T.read (M.rn s) = o) := ⟨_, rfl⟩
  rw [HO.out]
  go_enter_defers Tryd.func11, Tryd.ntmps11
  go_wp2_with fail
  have HX0 : Hid (S.Bx (w.alloc (.cells #[.slice none 0 0] 22)) w.heap.size 22 (.slice none 0 0)) := S.Bx.new w _ _
  have bA := (Below.refl _ w).alloc (Nat.le_refl _) (.cells #[.slice none 0 0] 22)
  have bB : Below w.heap.size w ((w.alloc (.cells #[.slice none 0 0] 22)).alloc (.cells #[.int .i64 0, .int .i64 0] 29)) := bA.alloc (by simp) _
  have hsz : (w.alloc (.cells #[.slice none 0 0] 22)).heap.size = w.heap.size + 1 := by simp
  have HX : S.Bx ((w.alloc (.cells #[.slice none 0 0] 22)).alloc (.cells #[.int .i64 0, .int .i64 0] 29)) w.heap.size 22 (.slice none 0 0) := HX0.out.below ((Below.refl _ _).alloc (Nat.le_refl _) _) (by rw [hsz]; omega)
  have HFb : ((w.alloc (.cells #[.slice none 0 0] 22)).alloc (.cells #[.int .i64 0, .int .i64 0] 29)).heap[w.heap.size + 1]? = some (.cells #[.int .i64 0, .int .i64 0] 29) := by
    have := heap_alloc_new (w.alloc (.cells #[.slice none 0 0] 22)) (.cells #[.int .i64 0, .int .i64 0] 29)
    rw [hsz] at this
    exact this
  refine (decode_any s _ hs).mono ?_
  generalize (w.alloc (.cells #[.slice none 0 0] 22)).alloc (.cells #[.int .i64 0, .int .i64 0] 29) = W2 at bB HX HFb
  clear HX0 bA hsz
  rintro e w3 ⟨v, rfl, own, b3⟩
  have hX3 : S.Bx w3 w.heap.size 22 (.slice none 0 0) := HX.below b3 HX.lt
  have hF3 : w3.heap[w.heap.size + 1]? = some (.cells #[.int .i64 0, .int .i64 0] 29) := by rw [b3.block _ (Array.getElem?_eq_some_iff.1 HFb).1]; exact HFb
  have B3 : Below w.heap.size w w3 := bB.trans (b3.mono bB.size)
  have hrt := rn_right s
  generalize M.rn s = l at own HO hrt
  have bW := (Below.refl _ w3).alloc (Nat.le_refl _) (.cells #[v, .int .i64 0] 62)
  have HX4 : Hid (S.Bx (w3.alloc (.cells #[v, .int .i64 0] 62)) w.heap.size 22 (.slice none 0 0)) := hX3.below bW hX3.lt
  have HF4 : Hid ((w3.alloc (.cells #[v, .int .i64 0] 62)).heap[w.heap.size + 1]? = some (.cells #[.int .i64 0, .int .i64 0] 29)) := by
    show _ = _
    rw [bW.block _ (Array.getElem?_eq_some_iff.1 hF3).1]; exact hF3
  have HB4 : Hid (Below w.heap.size w (w3.alloc (.cells #[v, .int .i64 0] 62))) := B3.trans (bW.mono B3.size)
  by_cases hbig : 4000 < l.length
  · obtain ⟨vo, vc, hv⟩ : ∃ vo vc, v = .slice vo l.length vc := by
      rcases own.2 with ⟨rfl, h0⟩ | ⟨g, cap, cur, rfl, _⟩
      · exact ⟨none, 0, by rw [h0]⟩
      · exact ⟨_, _, rfl⟩
    subst hv
    clear own hX3 hF3 B3 bB HX HFb b3 bW
    go_wp2_with (go_at_call 30; refine (fail_any _ 4 0).mono ?_; unfold T.thrown; rintro e w5 ⟨rfl, rfl⟩)
    refine leaves_cons (f := 28) (args := #[.pointer (some ⟨w.heap.size, 0, none⟩), .pointer (some ⟨w.heap.size + 1, 0, none⟩)]) (by simp) (by simp [go_sem]) ?_
    refine (catch_thrown w.heap.size (w.heap.size + 1) 4 0 [] _ _ _ _ HX4.out HF4.out (by omega)).mono ?_
    rintro e u' w6 ⟨rfl, rfl, hA, hF, hB⟩
    refine ⟨_, ret_read (by rfl) _ _ w.heap.size (w.heap.size + 1) _ _ _ hA hF rfl rfl, ?_⟩
    rw [← HO.out]
    unfold T.read
    rw [if_pos hbig]
    exact ⟨rfl, HB4.out.trans (hB w.heap.size (Nat.le_refl _) (by omega))⟩
  · obtain ⟨ao, cap, tb, hv, CW⟩ := T.Cur.new 62 own (by omega) hrt
    subst hv
    have HCW : Hid _ := CW
    have HNb : Hid (w.heap.size + 1 < w3.heap.size) := (Array.getElem?_eq_some_iff.1 hF3).1
    clear own CW hX3 hF3 B3 bB HX HFb b3 bW
    go_wp2_with fail
    refine (whole_any hK _ _ tb cap ao l HCW.out).mono ?_
    generalize w3.alloc (.cells #[.slice ao l.length cap, .int .i64 0] 62) = W4 at HX4 HF4 HB4 HCW
    intro e w5 h
    cases hc : T.whole l with
    | bad er q =>
      rw [hc] at h
      obtain ⟨rfl, g5⟩ := h
      have hX5 : S.Bx w5 w.heap.size 22 (.slice none 0 0) := HX4.out.grown g5 (by have := HNb.out; simp; omega)
      have hF5 : w5.heap[w.heap.size + 1]? = some (.cells #[.int .i64 0, .int .i64 0] 29) := by
        rw [g5.block _ (Array.getElem?_eq_some_iff.1 HF4.out).1 (by have := HNb.out; simp; omega)]; exact HF4.out
      have HB5 : Hid (Below w.heap.size w w5) := Below.grown HB4.out g5 HB4.out.size (fun k hk => by cases hk; have := HNb.out; omega)
      have HX5 : Hid _ := hX5
      have HF5 : Hid _ := hF5
      have HHc : Hid _ := hc
      clear hX5 hF5 g5 hc
      unfold T.thrown
      go_wp2
      refine leaves_cons (f := 28) (args := #[.pointer (some ⟨w.heap.size, 0, none⟩), .pointer (some ⟨w.heap.size + 1, 0, none⟩)]) (by simp) (by simp [go_sem]) ?_
      refine (catch_thrown w.heap.size (w.heap.size + 1) er q [] _ _ _ _ HX5.out HF5.out (by omega)).mono ?_
      rintro e u' w6 ⟨rfl, rfl, hA, hF, hB⟩
      refine ⟨_, ret_read (by rfl) _ _ w.heap.size (w.heap.size + 1) _ _ _ hA hF rfl rfl, ?_⟩
      rw [← HO.out]
      unfold T.read
      rw [if_neg hbig, HHc.out]
      exact ⟨rfl, HB5.out.trans (hB w.heap.size (Nat.le_refl _) (by omega))⟩
    | ok t q =>
      rw [hc] at h
      obtain ⟨v5, rfl, hv5, g5⟩ := h
      have hX5 : S.Bx w5 w.heap.size 22 (.slice none 0 0) := HX4.out.grown g5 (by have := HNb.out; simp; omega)
      have hF5 : w5.heap[w.heap.size + 1]? = some (.cells #[.int .i64 0, .int .i64 0] 29) := by
        rw [g5.block _ (Array.getElem?_eq_some_iff.1 HF4.out).1 (by have := HNb.out; simp; omega)]; exact HF4.out
      have HB5 : Hid (Below w.heap.size w w5) := Below.grown HB4.out g5 HB4.out.size (fun k hk => by cases hk; have := HNb.out; omega)
      have HX5 : Hid (S.Bx w5 w.heap.size 22 (.slice none 0 0)) := hX5
      have HF5 : Hid _ := hF5
      have HHc : Hid _ := hc
      have x0 := hX5.cell
      have x1 := hX5.free
      obtain ⟨y0, y1, y2, y3⟩ := box_cells hF5
      have HV5 : Hid (T.isSet t v5 w5) := hv5
      obtain ⟨vo, vc, hv⟩ := hv5.1.len
      subst hv
      clear hX5 hF5 g5 hc hv5
      go_wp2
      have hne : w.heap.size ≠ w.heap.size + 1 := by omega
      have R1 := rd_setCell HV5.out.1 x0 (.slice vo t.length vc) (fun z h => by cases h)
      have hF1 : (w5.setCell ⟨w.heap.size, 0, none⟩ (.slice vo t.length vc)).heap[w.heap.size + 1]? = some (.cells #[.int .i64 0, .int .i64 0] 29) := by rw [heap_setCell_other _ ⟨w.heap.size, 0, none⟩ _ _ (Ne.symm hne)]; exact HF5.out
      have R2 := rd_setCell R1 (box_cells hF1).1 (.int .i64 0) (fun z h => by cases h)
      have y1' : ((w5.setCell ⟨w.heap.size, 0, none⟩ (.slice vo t.length vc)).setCell ⟨w.heap.size + 1, 0, none⟩ (.int .i64 0)).cell? ⟨w.heap.size + 1, 1, none⟩ = some (.int .i64 0) := by
        rw [World.cell?_setCell_other _ _ _ _ (by simp)]; exact (box_cells hF1).2.1
      have R3 := rd_setCell R2 y1' (.int .i64 0) (fun z h => by cases h)
      have hF2 := two_set _ (w.heap.size + 1) _ _ (.int .i64 0) (.int .i64 0) 29 hF1
      have hA2 : S.Bx (((w5.setCell ⟨w.heap.size, 0, none⟩ (.slice vo t.length vc)).setCell ⟨w.heap.size + 1, 0, none⟩ (.int .i64 0)).setCell ⟨w.heap.size + 1, 1, none⟩ (.int .i64 0)) w.heap.size 22 (.slice vo t.length vc) := by
        show _ = _
        rw [heap_setCell_other _ ⟨w.heap.size + 1, 1, none⟩ _ _ hne, heap_setCell_other _ ⟨w.heap.size + 1, 0, none⟩ _ _ hne]
        exact HX5.out.set (.slice vo t.length vc)
      have hB2 : Below w.heap.size w (((w5.setCell ⟨w.heap.size, 0, none⟩ (.slice vo t.length vc)).setCell ⟨w.heap.size + 1, 0, none⟩ (.int .i64 0)).setCell ⟨w.heap.size + 1, 1, none⟩ (.int .i64 0)) := ((HB5.out.setCell (p := ⟨w.heap.size, 0, none⟩) (Nat.le_refl _) _).setCell (p := ⟨w.heap.size + 1, 0, none⟩) (Nat.le_succ _) _).setCell (p := ⟨w.heap.size + 1, 1, none⟩) (Nat.le_succ _) _
      generalize ((w5.setCell ⟨w.heap.size, 0, none⟩ (.slice vo t.length vc)).setCell ⟨w.heap.size + 1, 0, none⟩ (.int .i64 0)).setCell ⟨w.heap.size + 1, 1, none⟩ (.int .i64 0) = X at R3 hF2 hA2 hB2 ⊢
      refine leaves_cons (f := 28) (args := #[.pointer (some ⟨w.heap.size, 0, none⟩), .pointer (some ⟨w.heap.size + 1, 0, none⟩)]) (by simp) (by simp [go_sem]) ?_
      refine (catch_idle ⟨w.heap.size, 0, none⟩ ⟨w.heap.size + 1, 0, none⟩ _).mono ?_
      rintro e u' w6 ⟨rfl, rfl, ob, rfl⟩
      have bX := (Below.refl _ X).alloc (Nat.le_refl _) ob
      refine ⟨_, ret_read (by rfl) _ _ w.heap.size (w.heap.size + 1) _ _ _ (hA2.below bX hA2.lt) (by rw [bX.block _ (Array.getElem?_eq_some_iff.1 hF2).1]; exact hF2) rfl rfl, ?_⟩
      rw [← HO.out]
      unfold T.read
      rw [if_neg hbig, HHc.out]
      exact ⟨_, rfl, ⟨R3.below bX (Nat.le_refl _), HV5.out.2⟩, hB2.trans (bX.mono hB2.size)⟩

end Go.Proofs.YtbepnmmcdllklaaDoor
