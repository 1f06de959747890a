/-
  What rulesyn.Read answers of any text.
-/
import Derived.Test.YtajbcgobfkaahaaGreatDoorRRd9
import Derived.Test.YtajbcgobfkaahaaGreatDoorTDecode
import Derived.Defers
import Derived.Recover
namespace Go.Proofs.YtajbcgobfkaahaaGreatDoor
open Go.RowKit
set_option maxRecDepth 20000

/-- what Read answers -/
def R.readE (o : T.Out (List R.Part)) (w : World) (e : Ending) (w' : World) : Prop :=
  match o with
  | .ok t _ => ∃ v, e = .returned (.tuple #[v, .agg #[.int .i64 0, .int .i64 0]]) ∧ R.RowP w.heap.size w' v t ∧ t.length ≤ 200 ∧ Below w.heap.size w w'
  | .bad er q => e = .returned (.tuple #[.slice none 0 0, .agg #[.int .i64 er, .int .i64 q]]) ∧ Below w.heap.size w w'

def R.faultV (er : Int) (q : Nat) : Value := .iface 26 (.agg #[.int .i64 er, .int .i64 q])

theorem rassert_hit (x : Value) (w : World) : (Instr.typeAssert (.iface 26 x) 20 26 true).run Tryz.prog w = .ok (.tuple #[x, .bool true]) w := by kernel_rfl
theorem rassert_nil (w : World) : (Instr.typeAssert .nilIface 20 26 true).run Tryz.prog w = .ok (.tuple #[.agg #[.int .i64 0, .int .i64 0], .bool false]) w := by kernel_rfl

set_option maxHeartbeats 4000000 in
theorem rcatch_thrown (bs bf : Nat) (er : Int) (q : Nat) (older : List PanicEntry) (w : World) (vs f1 f2 : Value) (hs : S.Bx w bs 22 vs) (hf : w.heap[bf]? = some (.cells #[f1, f2] 26)) (hne : bs ≠ bf) :
    CallsD Tryz.prog 21 #[.pointer (some ⟨bs, 0, none⟩), .pointer (some ⟨bf, 0, none⟩)] (.panicking ({ v := R.faultV er q, recovered := false } :: older)) w fun e u' w' =>
      e = .returned (.tuple #[]) ∧ u' = .panicking ({ v := R.faultV er q, recovered := true } :: older) ∧ S.Bx w' bs 22 (.slice none 0 0) ∧ w'.heap[bf]? = some (.cells #[.int .i64 er, .int .i64 q] 26) ∧ (∀ B, B ≤ bs → B ≤ bf → Below B w w') := by
  have hta : ∀ (x : Value) (w : World), (Instr.typeAssert (.iface 26 x) 20 26 true).run Tryz.prog w = .ok (.tuple #[x, .bool true]) w := fun x w => rassert_hit x w
  have hrep : Array.replicate 9 undef = #[undef, undef, undef, undef, undef, undef, undef, undef, undef] := rfl
  refine callsD_of_wpS Tryz.func21 rfl fun c₀ cs hu => ?_
  apply wpS_seq
  apply wpS_region
  simp [wpOpsS, go_sem, recoverD, hu, Tryz.ntmps21, Exit.thenS, R.faultV, hrep, hta]
  refine wpS_of_wp ?_
  have bW := (Below.refl _ w).alloc (Nat.le_refl _) (.cells #[.int .i64 er, .int .i64 q] 26)
  have hx := box_cells (heap_alloc_new w (.cells #[.int .i64 er, .int .i64 q] 26))
  have hs' : S.Bx _ bs 22 vs := hs.below bW hs.lt
  have hf' : (w.alloc (.cells #[.int .i64 er, .int .i64 q] 26)).heap[bf]? = some (.cells #[f1, f2] 26) := by rw [bW.block bf (Array.getElem?_eq_some_iff.1 hf).1]; exact hf
  have hl1 := hs.lt
  have hl2 := (Array.getElem?_eq_some_iff.1 hf).1
  have n1 : ¬ w.heap.size = bs := by omega
  have n2 : ¬ w.heap.size = bf := by omega
  have hsc := hs'.cell
  have hsf := hs'.free
  have hfc := box_cells hf'
  have HS : Hid (S.Bx _ bs 22 vs) := hs'
  have HF : Hid _ := hf'
  have HB : Hid (∀ B, B ≤ w.heap.size → Below B w (w.alloc (.cells #[.int .i64 er, .int .i64 q] 26))) := fun B hB => bW.mono hB
  obtain ⟨x0, x1, _, _⟩ := hx
  obtain ⟨z0, z1, z2, z3⟩ := hfc
  generalize w.alloc (.cells #[.int .i64 er, .int .i64 q] 26) = W at *
  clear hs' hf' hs hf bW
  go_wp2
  go_region
  have hA1 := HS.out.set (.slice none 0 0)
  have hF1 : (W.setCell ⟨bs, 0, none⟩ (.slice none 0 0)).heap[bf]? = some (.cells #[f1, f2] 26) := by rw [heap_setCell_other _ ⟨bs, 0, none⟩ bf _ (Ne.symm hne)]; exact HF.out
  have hF2 := two_set _ bf f1 f2 (.int .i64 er) (.int .i64 q) 26 hF1
  have hA2 : S.Bx (((W.setCell ⟨bs, 0, none⟩ (.slice none 0 0)).setCell ⟨bf, 0, none⟩ (.int .i64 er)).setCell ⟨bf, 1, none⟩ (.int .i64 q)).drew bs 22 (.slice none 0 0) := by
    show _ = _
    show (((W.setCell ⟨bs, 0, none⟩ (.slice none 0 0)).setCell ⟨bf, 0, none⟩ (.int .i64 er)).setCell ⟨bf, 1, none⟩ (.int .i64 q)).heap[bs]? = _
    rw [heap_setCell_other _ ⟨bf, 1, none⟩ bs _ hne, heap_setCell_other _ ⟨bf, 0, none⟩ bs _ hne]
    exact hA1
  have hB2 : ∀ B, B ≤ bs → B ≤ bf → Below B w (((W.setCell ⟨bs, 0, none⟩ (.slice none 0 0)).setCell ⟨bf, 0, none⟩ (.int .i64 er)).setCell ⟨bf, 1, none⟩ (.int .i64 q)).drew := fun B h1 h2 => ((((HB.out B (by omega)).setCell (p := ⟨bs, 0, none⟩) h1 _).setCell (p := ⟨bf, 0, none⟩) h2 _).setCell (p := ⟨bf, 1, none⟩) h2 _).drew
  have hF3 : (((W.setCell ⟨bs, 0, none⟩ (.slice none 0 0)).setCell ⟨bf, 0, none⟩ (.int .i64 er)).setCell ⟨bf, 1, none⟩ (.int .i64 q)).drew.heap[bf]? = some (.cells #[.int .i64 er, .int .i64 q] 26) := hF2
  generalize (((W.setCell ⟨bs, 0, none⟩ (.slice none 0 0)).setCell ⟨bf, 0, none⟩ (.int .i64 er)).setCell ⟨bf, 1, none⟩ (.int .i64 q)).drew = X at hA2 hB2 hF3 ⊢
  change bodyPostS Tryz.prog Tryz.f21 c₀ cs _ Exit.normal _ _ X
  simp [bodyPostS, results, Tryz.results21]
  exact ⟨hA2, hF3, hB2⟩

set_option maxHeartbeats 4000000 in
theorem rcatch_idle (ps pf : Addr) (w : World) :
    CallsD Tryz.prog 21 #[.pointer (some ps), .pointer (some pf)] .returning w fun e u' w' =>
      e = .returned (.tuple #[]) ∧ u' = .returning ∧ ∃ o, w' = w.alloc o := by
  have hta : ∀ (w : World), (Instr.typeAssert .nilIface 20 26 true).run Tryz.prog w = .ok (.tuple #[.agg #[.int .i64 0, .int .i64 0], .bool false]) w := fun w => rassert_nil w
  have hrep : Array.replicate 9 undef = #[undef, undef, undef, undef, undef, undef, undef, undef, undef] := rfl
  refine callsD_of_wpS Tryz.func21 rfl fun c₀ cs hu => ?_
  apply wpS_seq
  apply wpS_region
  simp [wpOpsS, go_sem, recoverD, hu, Tryz.ntmps21, Exit.thenS, hrep, hta]
  refine wpS_of_wp ?_
  go_wp2
  cases c₀
  simp_all [bodyPostS, results, Tryz.results21]
  exact ⟨_, rfl⟩

theorem rret_read {fn : Func} {p u : Tmp} (h : fn.results = #[.cell p 22, .cell u 26]) (tmps : Array Value) (w : World) (bs bf : Nat) (v y1 y2 : Value) (hs : S.Bx w bs 22 v) (hf : w.heap[bf]? = some (.cells #[y1, y2] 26))
    (hp : tmps.getD p undef = .pointer (some ⟨bs, 0, none⟩)) (hu : tmps.getD u undef = .pointer (some ⟨bf, 0, none⟩)) : (results fn tmps).run Tryz.prog w = .ok (.tuple #[v, .agg #[y1, y2]]) w := by
  have hl := run_loadVar_row (P := Tryz.prog) w bf 26 26 #[y1, y2] (0, 0) _ hf Tryz.underlying26 rfl (by kernel_rfl)
  have hc := hs.cell
  have hl2 : (loadVar 22 ⟨bs, 0, none⟩).run Tryz.prog w = .ok v w := by
    simp [go_sem, hc]
  have e : (results fn tmps).run Tryz.prog w = ((asAddr (tmps.getD p undef)).run Tryz.prog w).andThen fun a w₁ => ((loadVar 22 a).run Tryz.prog w₁).andThen fun x w₂ => ((asAddr (tmps.getD u undef)).run Tryz.prog w₂).andThen fun b w₃ => ((loadVar 26 b).run Tryz.prog w₃).andThen fun y w₄ => .ok (.tuple #[x, y]) w₄ := by
    simp only [results, h]
    simp [Sem.run_bind, Result.andThen]
  rw [e, hp, hu]
  simp [asAddr, Result.andThen, hl, hl2]

set_option maxHeartbeats 8000000 in
theorem rread_any (hK : T.ClassOk) (s : ByteArray) (hs : s.size ≤ 1099511627776) (w : World) :
    Calls Tryz.prog 9 #[.string s] w (R.readE (R.read (M.rn s)) w) := by
  have hmf : ∀ (fn : Fn) (first cap : Array Value) (w : World), (Instr.makeFunc fn first cap).run Tryz.prog w = .ok (.func fn first cap) w := fun _ _ _ _ => rfl
  obtain ⟨o, HO⟩ : ∃ o, Hid (R.read (M.rn s) = o) := ⟨_, rfl⟩
  rw [HO.out]
  go_enter_defers Tryz.func9, Tryz.ntmps9
  go_wp2_with fail
  have HX0 : Hid (S.Bx (w.alloc (.cells #[.slice none 0 0] 22)) w.heap.size 22 (.slice none 0 0)) := S.Bx.new w _ _
  have bA := (Below.refl _ w).alloc (Nat.le_refl _) (.cells #[.slice none 0 0] 22)
  have bB : Below w.heap.size w ((w.alloc (.cells #[.slice none 0 0] 22)).alloc (.cells #[.int .i64 0, .int .i64 0] 26)) := bA.alloc (by simp) _
  have hsz : (w.alloc (.cells #[.slice none 0 0] 22)).heap.size = w.heap.size + 1 := by simp
  have HX : S.Bx ((w.alloc (.cells #[.slice none 0 0] 22)).alloc (.cells #[.int .i64 0, .int .i64 0] 26)) w.heap.size 22 (.slice none 0 0) := HX0.out.below ((Below.refl _ _).alloc (Nat.le_refl _) _) (by rw [hsz]; omega)
  have HFb : ((w.alloc (.cells #[.slice none 0 0] 22)).alloc (.cells #[.int .i64 0, .int .i64 0] 26)).heap[w.heap.size + 1]? = some (.cells #[.int .i64 0, .int .i64 0] 26) := by
    have := heap_alloc_new (w.alloc (.cells #[.slice none 0 0] 22)) (.cells #[.int .i64 0, .int .i64 0] 26)
    rw [hsz] at this
    exact this
  refine (decode_any s _ hs).mono ?_
  generalize (w.alloc (.cells #[.slice none 0 0] 22)).alloc (.cells #[.int .i64 0, .int .i64 0] 26) = W2 at bB HX HFb
  clear HX0 bA hsz
  rintro e w3 ⟨v, rfl, own, b3⟩
  have hX3 : S.Bx w3 w.heap.size 22 (.slice none 0 0) := HX.below b3 HX.lt
  have hF3 : w3.heap[w.heap.size + 1]? = some (.cells #[.int .i64 0, .int .i64 0] 26) := by rw [b3.block _ (Array.getElem?_eq_some_iff.1 HFb).1]; exact HFb
  have B3 : Below w.heap.size w w3 := bB.trans (b3.mono bB.size)
  have hrt := rn_right s
  generalize M.rn s = l at own HO hrt
  have bW := (Below.refl _ w3).alloc (Nat.le_refl _) (.cells #[v, .int .i64 0] 68)
  have HX4 : Hid (S.Bx (w3.alloc (.cells #[v, .int .i64 0] 68)) w.heap.size 22 (.slice none 0 0)) := hX3.below bW hX3.lt
  have HF4 : Hid ((w3.alloc (.cells #[v, .int .i64 0] 68)).heap[w.heap.size + 1]? = some (.cells #[.int .i64 0, .int .i64 0] 26)) := by
    show _ = _
    rw [bW.block _ (Array.getElem?_eq_some_iff.1 hF3).1]; exact hF3
  have HB4 : Hid (Below w.heap.size w (w3.alloc (.cells #[v, .int .i64 0] 68))) := B3.trans (bW.mono B3.size)
  by_cases hbig : 16000 < l.length
  · obtain ⟨vo, vc, hv⟩ : ∃ vo vc, v = .slice vo l.length vc := by
      rcases own.2 with ⟨rfl, h0⟩ | ⟨g, cap, cur, rfl, _⟩
      · exact ⟨none, 0, by rw [h0]⟩
      · exact ⟨_, _, rfl⟩
    subst hv
    clear own hX3 hF3 B3 bB HX HFb b3 bW
    go_wp2_with (go_at_call 23; refine (fail_any _ 4 0).mono ?_; unfold T.thrown; rintro e w5 ⟨rfl, rfl⟩)
    refine leaves_cons (f := 21) (args := #[.pointer (some ⟨w.heap.size, 0, none⟩), .pointer (some ⟨w.heap.size + 1, 0, none⟩)]) (by simp) (by simp [go_sem]) ?_
    refine (rcatch_thrown w.heap.size (w.heap.size + 1) 4 0 [] _ _ _ _ HX4.out HF4.out (by omega)).mono ?_
    rintro e u' w6 ⟨rfl, rfl, hA, hF, hB⟩
    refine ⟨_, rret_read (by rfl) _ _ w.heap.size (w.heap.size + 1) _ _ _ hA hF rfl rfl, ?_⟩
    rw [← HO.out]
    unfold R.read
    rw [if_pos hbig]
    exact ⟨rfl, HB4.out.trans (hB w.heap.size (Nat.le_refl _) (by omega))⟩
  · obtain ⟨ao, cap, tb, hv, CW⟩ := T.Cur.new 68 own (by omega) hrt
    subst hv
    have HCW : Hid _ := CW
    have HNb : Hid (w.heap.size + 1 < w3.heap.size) := (Array.getElem?_eq_some_iff.1 hF3).1
    clear own CW hX3 hF3 B3 bB HX HFb b3 bW
    go_wp2_with fail
    refine (parts_at hK _ _ tb cap ao l HCW.out).mono ?_
    generalize w3.alloc (.cells #[.slice ao l.length cap, .int .i64 0] 68) = W4 at HX4 HF4 HB4 HCW
    intro e w5 h
    cases hc : R.parts l with
    | bad er q =>
      rw [hc] at h
      obtain ⟨rfl, g5⟩ := h
      have hX5 : S.Bx w5 w.heap.size 22 (.slice none 0 0) := HX4.out.grown g5 (by have := HNb.out; simp; omega)
      have hF5 : w5.heap[w.heap.size + 1]? = some (.cells #[.int .i64 0, .int .i64 0] 26) := by
        rw [g5.block _ (Array.getElem?_eq_some_iff.1 HF4.out).1 (by have := HNb.out; simp; omega)]; exact HF4.out
      have HB5 : Hid (Below w.heap.size w w5) := Below.grown HB4.out g5 HB4.out.size (fun k hk => by cases hk; have := HNb.out; omega)
      have HX5 : Hid _ := hX5
      have HF5 : Hid _ := hF5
      have HHc : Hid _ := hc
      clear hX5 hF5 g5 hc
      unfold T.thrown
      go_wp2
      refine leaves_cons (f := 21) (args := #[.pointer (some ⟨w.heap.size, 0, none⟩), .pointer (some ⟨w.heap.size + 1, 0, none⟩)]) (by simp) (by simp [go_sem]) ?_
      refine (rcatch_thrown w.heap.size (w.heap.size + 1) er q [] _ _ _ _ HX5.out HF5.out (by omega)).mono ?_
      rintro e u' w6 ⟨rfl, rfl, hA, hF, hB⟩
      refine ⟨_, rret_read (by rfl) _ _ w.heap.size (w.heap.size + 1) _ _ _ hA hF rfl rfl, ?_⟩
      rw [← HO.out]
      unfold R.read
      rw [if_neg hbig, HHc.out]
      exact ⟨rfl, HB5.out.trans (hB w.heap.size (Nat.le_refl _) (by omega))⟩
    | ok t q =>
      rw [hc] at h
      obtain ⟨v5, rfl, ⟨hr5, hl5⟩, C5, g5⟩ := h
      have hX5 : S.Bx w5 w.heap.size 22 (.slice none 0 0) := HX4.out.grown g5 (by have := HNb.out; simp; omega)
      have hF5 : w5.heap[w.heap.size + 1]? = some (.cells #[.int .i64 0, .int .i64 0] 26) := by
        rw [g5.block _ (Array.getElem?_eq_some_iff.1 HF4.out).1 (by have := HNb.out; simp; omega)]; exact HF4.out
      have HB5 : Hid (Below w.heap.size w w5) := Below.grown HB4.out g5 HB4.out.size (fun k hk => by cases hk; have := HNb.out; omega)
      have HX5 : Hid (S.Bx w5 w.heap.size 22 (.slice none 0 0)) := hX5
      have HF5 : Hid _ := hF5
      have HHc : Hid _ := hc
      have x0 := hX5.cell
      have x1 := hX5.free
      obtain ⟨y0, y1, y2, y3⟩ := box_cells hF5
      have hW4 : w.heap.size + 2 ≤ W4.heap.size := by have := (Array.getElem?_eq_some_iff.1 HF4.out).1; omega
      have HR5 : Hid (R.RowP W4.heap.size w5 v5 t) := hr5
      obtain ⟨vo, vc, hv⟩ := R.Row.slice hr5
      subst hv
      clear hX5 hF5 g5 hc hr5 C5
      go_wp2
      have hne : w.heap.size ≠ w.heap.size + 1 := by omega
      have g1 : w5.grownBy (w5.setCell ⟨w.heap.size, 0, none⟩ (.slice vo t.length vc)) (some w.heap.size) := R.grown_set _ _ _ _
      have g2 : (w5.setCell ⟨w.heap.size, 0, none⟩ (.slice vo t.length vc)).grownBy (((w5.setCell ⟨w.heap.size, 0, none⟩ (.slice vo t.length vc)).setCell ⟨w.heap.size + 1, 0, none⟩ (.int .i64 0)).setCell ⟨w.heap.size + 1, 1, none⟩ (.int .i64 0)) (some (w.heap.size + 1)) := S.grown_trans (R.grown_set _ _ _ _) (R.grown_set _ _ _ _)
      have R3 := R.Row.cur (R.Row.cur HR5.out g1 (by omega)) g2 (by omega)
      have hF1 : (w5.setCell ⟨w.heap.size, 0, none⟩ (.slice vo t.length vc)).heap[w.heap.size + 1]? = some (.cells #[.int .i64 0, .int .i64 0] 26) := by rw [heap_setCell_other _ ⟨w.heap.size, 0, none⟩ _ _ (Ne.symm hne)]; exact HF5.out
      have hF2 := two_set _ (w.heap.size + 1) _ _ (.int .i64 0) (.int .i64 0) 26 hF1
      have hA2 : S.Bx (((w5.setCell ⟨w.heap.size, 0, none⟩ (.slice vo t.length vc)).setCell ⟨w.heap.size + 1, 0, none⟩ (.int .i64 0)).setCell ⟨w.heap.size + 1, 1, none⟩ (.int .i64 0)) w.heap.size 22 (.slice vo t.length vc) := by
        show _ = _
        rw [heap_setCell_other _ ⟨w.heap.size + 1, 1, none⟩ _ _ hne, heap_setCell_other _ ⟨w.heap.size + 1, 0, none⟩ _ _ hne]
        exact HX5.out.set (.slice vo t.length vc)
      have hB2 : Below w.heap.size w (((w5.setCell ⟨w.heap.size, 0, none⟩ (.slice vo t.length vc)).setCell ⟨w.heap.size + 1, 0, none⟩ (.int .i64 0)).setCell ⟨w.heap.size + 1, 1, none⟩ (.int .i64 0)) := ((HB5.out.setCell (p := ⟨w.heap.size, 0, none⟩) (Nat.le_refl _) _).setCell (p := ⟨w.heap.size + 1, 0, none⟩) (Nat.le_succ _) _).setCell (p := ⟨w.heap.size + 1, 1, none⟩) (Nat.le_succ _) _
      generalize ((w5.setCell ⟨w.heap.size, 0, none⟩ (.slice vo t.length vc)).setCell ⟨w.heap.size + 1, 0, none⟩ (.int .i64 0)).setCell ⟨w.heap.size + 1, 1, none⟩ (.int .i64 0) = X at R3 hF2 hA2 hB2 ⊢
      refine leaves_cons (f := 21) (args := #[.pointer (some ⟨w.heap.size, 0, none⟩), .pointer (some ⟨w.heap.size + 1, 0, none⟩)]) (by simp) (by simp [go_sem]) ?_
      refine (rcatch_idle ⟨w.heap.size, 0, none⟩ ⟨w.heap.size + 1, 0, none⟩ _).mono ?_
      rintro e u' w6 ⟨rfl, rfl, ob, rfl⟩
      have bX := (Below.refl _ X).alloc (Nat.le_refl _) ob
      refine ⟨_, rret_read (by rfl) _ _ w.heap.size (w.heap.size + 1) _ _ _ (hA2.below bX hA2.lt) (by rw [bX.block _ (Array.getElem?_eq_some_iff.1 hF2).1]; exact hF2) rfl rfl, ?_⟩
      rw [← HO.out]
      unfold R.read
      rw [if_neg hbig, HHc.out]
      exact ⟨_, rfl, R.Row.down (R.Row.below R3 bX) (by omega), hl5, hB2.trans (bX.mono hB2.size)⟩

end Go.Proofs.YtajbcgobfkaahaaGreatDoor
