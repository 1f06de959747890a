/-
  A step of the machine: (*vm.machine).replace.
-/
import Derived.Test.YtlmmjefplbcapaaGreatXFirst
namespace Go.Proofs.YtlmmjefplbcapaaGreat
open Go.RowKit Go.Shelf
set_option maxRecDepth 20000
set_option linter.unusedSimpArgs false
set_option linter.unusedVariables false

theorem Gm.Room.re {B B' : Gm.Bs} {w : World} {ao : Option Addr} {cur : List Int} (h : Gm.Room B w ao cur) (hr : ∀ r, ao = Option.some ⟨r, 0, none⟩ → B'.ok r) : Gm.Room B' w ao cur := by
  rcases h with h | ⟨r, h1, _, h3⟩
  · exact .inl h
  · exact .inr ⟨r, h1, hr r h1, h3⟩
theorem Gm.Tx.re {B B' : Gm.Bs} {g : Nat} {ao : Option Addr} {cur A Z : List Int} {w : World} (h : Gm.Tx B g ao cur A Z w) (hg : B'.ok g) (hr : ∀ r, ao = some ⟨r, 0, none⟩ → B'.ok r) : Gm.Tx B' g ao cur A Z w :=
  ⟨hg, h.box, h.room.re hr, h.ne, h.fit, h.most, h.few, h.ahead, h.behind⟩
theorem Gm.Mx.below {b : Nat} {ms : List Nat} {mb : Nat} {wb w w' : World} {g : Nat} {vr vh : Value} {l : List K.Rule} {c A Z : List Int} (M : Gm.Mx b ms mb wb w g vr vh l c A Z) (h : Below w.heap.size w w') : Gm.Mx b ms mb wb w' g vr vh l c A Z := by
  obtain ⟨ao, cur, hT⟩ := M.tx
  have hb : b ≤ w.heap.size := hT.size
  exact ⟨M.base, M.bel.trans (h.mono M.bel.size), K.blk_below M.box h, M.mem, fun j hj => Nat.lt_of_lt_of_le (M.old j hj) h.size, ⟨ao, cur, hT.kept fun k hk => h.block k hk⟩, M.rus, fun W hW => M.hd W ((h.mono hb).trans hW)⟩
theorem Gm.Mx.lt {b : Nat} {ms : List Nat} {mb : Nat} {wb w : World} {g : Nat} {vr vh : Value} {l : List K.Rule} {c A Z : List Int} (M : Gm.Mx b ms mb wb w g vr vh l c A Z) : mb < w.heap.size := (Array.getElem?_eq_some_iff.1 M.box).1
/-- behind a call of the text's, with more kept than is told -/
theorem Gm.Mx.told {b : Nat} {ms ns : List Nat} {mb : Nat} {wb w w' : World} {g : Nat} {vr vh : Value} {l : List K.Rule} {c A Z A' Z' : List Int} (M : Gm.Mx b ms mb wb w g vr vh l c A Z) (hm : ∀ j ∈ ms, j ∈ ns) (h : Gm.Told ⟨b, ns⟩ g w A' Z' w') : Gm.Mx b ms mb wb w' g vr vh l c A' Z' := by
  obtain ⟨⟨ao, cur, hT⟩, hF⟩ := h
  refine ⟨M.base, M.bel.trans (hF.1.mono M.base), (hF.2 mb (hm mb M.mem) M.lt).trans M.box, M.mem, fun j hj => Nat.lt_of_lt_of_le (M.old j hj) hF.size, ⟨ao, cur, hT.re ⟨hT.hB.1, fun e => hT.hB.2 (hm _ e)⟩ fun r hr => ?_⟩, M.rus, fun W hW => M.hd W (hF.1.trans hW)⟩
  have hk := hT.room
  rcases hk with ⟨h0, _⟩ | ⟨r', h1, h2, _⟩
  · rw [h0] at hr; cases hr
  · rw [h1] at hr
    cases hr
    exact ⟨h2.1, fun e => h2.2 (hm _ e)⟩
theorem Gm.Fr.less {b : Nat} {ms ns : List Nat} {w w' : World} (h : Gm.Fr ⟨b, ns⟩ w w') (hm : ∀ j ∈ ms, j ∈ ns) : Gm.Fr ⟨b, ms⟩ w w' := ⟨h.1, fun j hj hl => h.2 j (hm j hj) hl⟩

/-- the cursor to a place ahead -/
theorem xmove_any (w : World) (B : Gm.Bs) (g : Nat) (ao : Option Addr) (cur A Z : List Int) (h : Gm.Tx B g ao cur A Z w) (k : Nat) (hk : k ≤ A.length) :
    Calls Tryz.prog 58 #[.pointer (some ⟨g, 0, none⟩), .int .i64 k] w fun e w' => e = .returned (.int .i64 0) ∧ Gm.Told B g w (A.take k) (A.drop k ++ Z) w' := by
  by_cases hlt : k < A.length
  · obtain ⟨r, rfl⟩ := h.room.some (by have := h.fit; omega)
    exact move_left w B g r cur A Z h k hlt
  · obtain rfl : k = A.length := by omega
    have := move_stay w B g ao cur A Z h
    rw [List.take_length, List.drop_length, List.nil_append]
    exact this

set_option maxHeartbeats 8000000 in
theorem xreplace_any (b : Nat) (ms : List Nat) (mb : Nat) (wb w : World) (g : Nat) (vr vh : Value) (l : List K.Rule) (c : List Int) (A Z : List Int) (M : Gm.Mx b ms mb wb w g vr vh l c A Z) (v : Value) (r : K.Rule) (hr : K.RuIs wb v r) (hE : K.ruleE r = 0) (hs : r.source.length ≤ Z.length) :
    Calls Tryz.prog 65 #[.pointer (some ⟨mb, 0, none⟩), v] w fun e w' => ∃ x : Int, e = .returned (.int .i64 x) ∧
      ((4000 < A.length + (K.restOf r Z).length ∧ x = 4 ∧ Below b w w') ∨ (¬ 4000 < A.length + (K.restOf r Z).length ∧ x = 0 ∧ Gm.Mx b ms mb wb w' g vr vh l c (A ++ (K.restOf r Z).take r.cursor.toNat) ((K.restOf r Z).drop r.cursor.toNat) ∧ Gm.Fr ⟨b, ms⟩ w w')) := by
  have hmb := M.lt
  obtain ⟨z1, z2, z3, z4, z5, z6, z7, z8⟩ := K.ruleE_zero hE
  obtain ⟨bo, bc, so, sc, ao2, ac, tt, tc, rfl, R1, R2, R3, R4, hl4, hcu⟩ := hr
  obtain ⟨X, hX⟩ : ∃ X, X = w.alloc (.cells #[.bool r.start, .bool r.fin, .slice bo r.before.length bc, .slice so r.source.length sc, .slice ao2 r.after.length ac, .slice tt r.target.length tc, .int .i64 r.cursor] 55) := ⟨_, rfl⟩
  have hXw : Below w.heap.size w X := by rw [hX]; exact (Below.refl _ w).alloc (Nat.le_refl _) _
  have hXs : X.heap.size = w.heap.size + 1 := by rw [hX]; simp
  have hXr : X.heap[w.heap.size]? = some (.cells #[.bool r.start, .bool r.fin, .slice bo r.before.length bc, .slice so r.source.length sc, .slice ao2 r.after.length ac, .slice tt r.target.length tc, .int .i64 r.cursor] 55) := by
    rw [hX]
    show (w.heap.push _)[w.heap.size]? = _
    exact Array.getElem?_push_size
  have MX := M.below hXw
  obtain ⟨ao0, cur0, hT0⟩ := M.tx
  have hgs := hT0.box.lt
  have hbw : b ≤ w.heap.size := hT0.size
  have hT1 : Gm.Tx ⟨b, w.heap.size :: ms⟩ g ao0 cur0 A Z X := (hT0.kept fun k hk => hXw.block k hk).re ⟨hT0.hB.1, fun e => by
      rcases List.mem_cons.1 e with e | e
      · omega
      · exact hT0.hB.2 e⟩ fun q hq => by
    have h1 := hT0.room.lt q hq
    refine ⟨h1.1.1, fun e => ?_⟩
    rcases List.mem_cons.1 e with e | e
    · omega
    · exact h1.1.2 e
  have HKp : Hid (∀ W, Gm.Fr ⟨b, w.heap.size :: ms⟩ X W → W.cell? ⟨mb, 0, none⟩ = some (.pointer (some ⟨g, 0, none⟩)) ∧ W.cell? ⟨w.heap.size, 3, none⟩ = some (.slice so r.source.length sc) ∧ W.cell? ⟨w.heap.size, 5, none⟩ = some (.slice tt r.target.length tc) ∧ W.cell? ⟨w.heap.size, 6, none⟩ = some (.int .i64 r.cursor)) := fun W hW => by
    have b1 : W.heap[mb]? = _ := (hW.2 mb (List.mem_cons_of_mem _ MX.mem) MX.lt).trans MX.box
    have b2 : W.heap[w.heap.size]? = _ := (hW.2 w.heap.size (by simp) (by omega)).trans hXr
    exact ⟨K.at_box (i := 0) b1 rfl, K.at_box (i := 3) b2 rfl, K.at_box (i := 5) b2 rfl, K.at_box (i := 6) b2 rfl⟩
  have HCur : Hid (Calls Tryz.prog 50 #[.pointer (some ⟨g, 0, none⟩)] X fun e w' => e = .returned (.int .i64 A.length) ∧ w' = X) := cursor_any X g A.length _ _ hT1.box
  have HDel : Hid (∀ W, W = X.drew → Calls Tryz.prog 76 #[.pointer (some ⟨g, 0, none⟩), .int .i64 r.source.length] W fun e w' => e = .returned (.int .i64 0) ∧ (∃ ao cur, Gm.Tx ⟨b, w.heap.size :: ms⟩ g ao cur A (Z.drop r.source.length) w') ∧ Gm.Fr ⟨b, w.heap.size :: ms⟩ X w') := fun W hW => by
    subst hW
    exact (del_ok X.drew _ g ao0 cur0 A Z (hT1.drew 1) r.source.length hs).mono fun e w' ⟨h1, h2⟩ => ⟨h1, h2.1, (Gm.Fr.refl _ X).drew.trans h2.2⟩
  have hZl : (Z.drop r.source.length).length = Z.length - r.source.length := List.length_drop
  have hro : (K.restOf r Z).length = r.target.length + (Z.length - r.source.length) := by unfold K.restOf; rw [List.length_append, hZl]
  have HV : Hid (∀ W, Gm.Fr ⟨b, w.heap.size :: ms⟩ X W → L.Rd W (.slice tt r.target.length tc) .i32 r.target) := fun W hW => by
    have h1 : Below wb.heap.size wb W := MX.bel.trans (hW.1.mono M.base)
    exact R4.below h1 (Nat.le_refl _)
  have HSz : Hid (∀ W, Gm.Fr ⟨b, w.heap.size :: ms⟩ X W → ∀ j ∈ w.heap.size :: ms, j < W.heap.size) := fun W hW j hj => by
    have := hW.size
    rcases List.mem_cons.1 hj with hj | hj
    · omega
    · have := MX.old j hj
      omega
  have HMx : Hid (∀ W A' Z', (∃ ao cur, Gm.Tx ⟨b, w.heap.size :: ms⟩ g ao cur A' Z' W) → Gm.Fr ⟨b, w.heap.size :: ms⟩ X W → Gm.Mx b ms mb wb W g vr vh l c A' Z' ∧ Gm.Fr ⟨b, ms⟩ w W) := fun W A' Z' h1 h2 => ⟨MX.told (ns := w.heap.size :: ms) (fun j hj => List.mem_cons_of_mem _ hj) ⟨h1, h2⟩, (Gm.Fr.of_below hXw hbw).trans (h2.less fun j hj => List.mem_cons_of_mem _ hj)⟩
  have HBl : Hid (∀ W, Gm.Fr ⟨b, w.heap.size :: ms⟩ X W → Below b w W) := fun W hW => (hXw.mono hbw).trans hW.1
  have HXX : Hid (X = w.alloc (.cells #[.bool r.start, .bool r.fin, .slice bo r.before.length bc, .slice so r.source.length sc, .slice ao2 r.after.length ac, .slice tt r.target.length tc, .int .i64 r.cursor] 55)) := hX
  have HT4 : Hid (A.length + Z.length ≤ 4000) := hT0.few
  clear hXr MX hT0 hT1 hgs R1 R2 R3 R4 hX hXw M z1 z2 z3 z6 hE
  obtain ⟨st, fi, be, sou, af, ta, cu⟩ := r
  simp only at z4 z5 z7 z8 HKp HDel hro HV HXX hs hl4 hcu hZl
  obtain ⟨n, rfl⟩ : ∃ n : Nat, cu = n := ⟨cu.toNat, by omega⟩
  obtain ⟨Rs, hRs⟩ : ∃ Rs, Rs = K.restOf ⟨st, fi, be, sou, af, ta, (n : Int)⟩ Z := ⟨_, rfl⟩
  have HRs : Hid (Rs = ta ++ Z.drop sou.length) := by show _ = _; rw [hRs]; rfl
  rw [← hRs] at hro ⊢
  simp only [Int.toNat_natCast]
  clear hRs
  obtain ⟨k0, k3, k5, k6⟩ := HKp.out X (Gm.Fr.refl _ _)
  go_enter Tryz.func65, Tryz.ntmps65
  have m0 := k0
  rw [HXX.out] at m0
  go_wp2_with fail
  rw [← HXX.out]
  refine HCur.out.mono ?_
  rintro e w1 ⟨rfl, rfl⟩
  clear m0 HCur
  go_upto_region 2 with fail
  go_cut [6] (fun v6 wx => v6 = .int .i64 0 ∧ Hid ((∃ ao cur, Gm.Tx ⟨b, w.heap.size :: ms⟩ g ao cur A (Z.drop sou.length) wx) ∧ Gm.Fr ⟨b, w.heap.size :: ms⟩ w1 wx))
  case first =>
    go_region_with (go_at_call 76; refine (HDel.out _ rfl).mono ?_; rintro e w2 ⟨rfl, s2⟩)
    all_goals go_wp2
    all_goals go_meet
    all_goals exact ⟨rfl, s2⟩
  case rest =>
    obtain ⟨rfl, HS⟩ := hcut
    obtain ⟨c0, c3, c5, c6⟩ := HKp.out wc HS.out.2
    clear HDel k0 k3 k5 k6
    by_cases hbig : 4000 < A.length + Rs.length
    · have HPut : Hid (∀ W, W = wc.drew → Calls Tryz.prog 57 #[.pointer (some ⟨g, 0, none⟩), .slice tt ta.length tc] W fun e w' => e = .returned (.int .i64 4) ∧ Below b w w') := fun W hW => by
        subst hW
        obtain ⟨⟨ao, cur, hT⟩, hF⟩ := HS.out
        refine (put_bad wc.drew _ g ao cur A (Z.drop sou.length) (hT.drew 1) tt ta.length tc (by unfold maxLen; omega) (by rw [hZl]; omega)).mono ?_
        rintro e w' ⟨h1, h2⟩
        exact ⟨h1, HBl.out w' (hF.drew.trans h2.2)⟩
      clear HS
      go_upto_region 5 with fail
      go_cut [7] (fun v7 wx => v7 = .int .i64 4 ∧ Hid (Below b w wx))
      case first =>
        go_region_with (go_at_call 57; refine (HPut.out _ rfl).mono ?_; rintro e w2 ⟨rfl, s2⟩)
        all_goals go_wp2
        all_goals go_meet
        all_goals exact ⟨rfl, s2⟩
      case rest =>
        obtain ⟨rfl, HE⟩ := hcut
        go_wp2
        go_ret
        exact ⟨4, rfl, .inl ⟨hbig, rfl, HE.out⟩⟩
    · have HPut : Hid (∀ W, W = wc.drew → Calls Tryz.prog 57 #[.pointer (some ⟨g, 0, none⟩), .slice tt ta.length tc] W fun e w' => e = .returned (.int .i64 0) ∧ (∃ ao cur, Gm.Tx ⟨b, w.heap.size :: ms⟩ g ao cur (A ++ ta) (Z.drop sou.length) w') ∧ Gm.Fr ⟨b, w.heap.size :: ms⟩ w1 w') := fun W hW => by
        subst hW
        obtain ⟨⟨ao, cur, hT⟩, hF⟩ := HS.out
        refine (put_ok wc.drew _ g ao cur A (Z.drop sou.length) (hT.drew 1) _ ta (fun w' hw' => HV.out w' (hF.drew.trans hw')) (by rw [hZl]; omega) (HSz.out wc hF)).mono ?_
        rintro e w' ⟨h1, h2⟩
        exact ⟨h1, h2.1, hF.drew.trans h2.2⟩
      clear HS
      go_upto_region 5 with fail
      go_cut [7] (fun v7 wx => v7 = .int .i64 0 ∧ Hid ((∃ ao cur, Gm.Tx ⟨b, w.heap.size :: ms⟩ g ao cur (A ++ ta) (Z.drop sou.length) wx) ∧ Gm.Fr ⟨b, w.heap.size :: ms⟩ w1 wx))
      case first =>
        go_region_with (go_at_call 57; refine (HPut.out _ rfl).mono ?_; rintro e w2 ⟨rfl, s2⟩)
        all_goals go_wp2
        all_goals go_meet
        all_goals exact ⟨rfl, s2⟩
      case rest =>
        obtain ⟨rfl, HS⟩ := hcut
        clear c0 c3 c5 c6 HPut
        obtain ⟨c0, c3, c5, c6⟩ := HKp.out wc HS.out.2
        obtain ⟨p, hp⟩ : ∃ p : Nat, p = A.length + n := ⟨_, rfl⟩
        have hpi : (A.length : Int) + n = p := by omega
        have HMv : Hid (∀ W, W = wc.drew → Calls Tryz.prog 58 #[.pointer (some ⟨g, 0, none⟩), .int .i64 (IntKind.i64.wrap ((A.length : Int) + (n : Int)))] W fun e w' => e = .returned (.int .i64 0) ∧ Gm.Mx b ms mb wb w' g vr vh l c (A ++ Rs.take n) (Rs.drop n) ∧ Gm.Fr ⟨b, ms⟩ w w') := fun W hW => by
          subst hW
          rw [show IntKind.i64.wrap ((A.length : Int) + (n : Int)) = (p : Int) by rw [IntKind.wrap_i64]; omega]
          obtain ⟨⟨ao, cur, hT⟩, hF⟩ := HS.out
          refine (xmove_any wc.drew _ g ao cur (A ++ ta) (Z.drop sou.length) (hT.drew 1) p (by rw [List.length_append]; omega)).mono ?_
          rintro e w' ⟨h1, h2⟩
          have e1 : (A ++ ta).take p = A ++ Rs.take n := by rw [hp, HRs.out, List.take_append, List.take_append_of_le_length (by omega), List.take_of_length_le (by omega), show A.length + n - A.length = n by omega]
          have e2 : (A ++ ta).drop p ++ Z.drop sou.length = Rs.drop n := by rw [hp, HRs.out, List.drop_append, List.drop_of_length_le (by omega), List.nil_append, show A.length + n - A.length = n by omega, List.drop_append_of_le_length (by omega)]
          rw [e1, e2] at h2
          exact ⟨h1, HMx.out w' _ _ h2.1 (hF.drew.trans h2.2)⟩
        have hA4 : A.length ≤ 4000 := by have := HT4.out; omega
        have hn4 : n ≤ 20 := by omega
        clear HS hp hpi
        go_upto_region 8 with fail
        go_cut [4] (fun v4 wx => v4 = .int .i64 0 ∧ Hid (Gm.Mx b ms mb wb wx g vr vh l c (A ++ Rs.take n) (Rs.drop n) ∧ Gm.Fr ⟨b, ms⟩ w wx))
        case first =>
          go_region_with (go_at_call 58; refine (HMv.out _ rfl).mono ?_; rintro e w2 ⟨rfl, s2⟩)
          all_goals go_wp2
          all_goals go_meet
          all_goals exact ⟨rfl, s2⟩
        case rest =>
          obtain ⟨rfl, HE⟩ := hcut
          go_wp2
          go_ret
          exact ⟨0, rfl, .inr ⟨hbig, rfl, HE.out⟩⟩

end Go.Proofs.YtlmmjefplbcapaaGreat

/-
  A step of the machine, whole: (*vm.machine).step.
-/
namespace Go.Proofs.YtlmmjefplbcapaaGreat
open Go.RowKit Go.Shelf
set_option maxRecDepth 20000
set_option linter.unusedSimpArgs false
set_option linter.unusedVariables false

/-- where no rule matches -/
theorem Gm.right1 (w : World) (B : Gm.Bs) (g : Nat) (ao : Option Addr) (cur A Z : List Int) (h : Gm.Tx B g ao cur A Z w) (hz : 0 < Z.length) :
    Calls Tryz.prog 58 #[.pointer (some ⟨g, 0, none⟩), .int .i64 ((A.length + 1 : Nat) : Int)] w fun e w' => e = .returned (.int .i64 0) ∧ Gm.Told B g w (A ++ Z.take 1) (Z.drop 1) w' := by
  obtain ⟨r, rfl⟩ := h.room.some (by have := h.fit; omega)
  exact move_right w B g r cur A Z h (A.length + 1) 1 rfl (by omega) (by omega)

set_option maxHeartbeats 8000000 in
theorem xstep_no (b : Nat) (ms : List Nat) (mb : Nat) (wb w : World) (g : Nat) (vr vh : Value) (l : List K.Rule) (c : List Int) (A Z : List Int) (M : Gm.Mx b ms mb wb w g vr vh l c A Z) (hz : 0 < Z.length) :
    Calls Tryz.prog 52 #[.pointer (some ⟨mb, 0, none⟩), .int .i64 (-1)] w fun e w' => e = .returned (.int .i64 0) ∧ Gm.Mx b ms mb wb w' g vr vh l c (A ++ Z.take 1) (Z.drop 1) ∧ Gm.Fr ⟨b, ms⟩ w w' := by
  obtain ⟨ao, cur, hT⟩ := M.tx
  have hf := hT.few
  have k0 : w.cell? ⟨mb, 0, none⟩ = some (.pointer (some ⟨g, 0, none⟩)) := K.at_box (i := 0) M.box rfl
  have HCur : Hid (∀ W, W = w.drew → Calls Tryz.prog 50 #[.pointer (some ⟨g, 0, none⟩)] W fun e w' => e = .returned (.int .i64 A.length) ∧ w' = W) := fun W hW => by
    subst hW
    exact cursor_any w.drew g A.length _ _ (hT.drew 1).box
  have HMv : Hid (∀ W, W = w.drew → Calls Tryz.prog 58 #[.pointer (some ⟨g, 0, none⟩), .int .i64 (IntKind.i64.wrap ((A.length : Int) + 1))] W fun e w' => e = .returned (.int .i64 0) ∧ Gm.Mx b ms mb wb w' g vr vh l c (A ++ Z.take 1) (Z.drop 1) ∧ Gm.Fr ⟨b, ms⟩ w w') := fun W hW => by
    subst hW
    rw [show IntKind.i64.wrap ((A.length : Int) + 1) = ((A.length + 1 : Nat) : Int) by rw [IntKind.wrap_i64]; omega]
    refine (Gm.right1 w.drew _ g ao cur A Z (hT.drew 1) hz).mono ?_
    rintro e w' ⟨h1, h2⟩
    exact ⟨h1, M.told (ns := ms) (fun j hj => hj) ⟨h2.1, (Gm.Fr.refl _ w).drew.trans h2.2⟩, (Gm.Fr.refl _ w).drew.trans h2.2⟩
  clear hT M
  go_enter Tryz.func52, Tryz.ntmps52
  go_wp2_with fail
  go_region_with (first
    | (go_at_call 50; refine (HCur.out _ rfl).mono ?_; rintro e w1 ⟨rfl, rfl⟩)
    | (go_at_call 58; refine (HMv.out _ rfl).mono ?_; rintro e w2 ⟨rfl, s2⟩))
  all_goals go_wp2
  all_goals go_ret
  all_goals exact ⟨rfl, s2⟩

set_option maxHeartbeats 8000000 in
theorem xstep_yes (b : Nat) (ms : List Nat) (mb : Nat) (wb w : World) (g : Nat) (vr vh : Value) (l : List K.Rule) (c : List Int) (A Z : List Int) (M : Gm.Mx b ms mb wb w g vr vh l c A Z) (k : Nat) (r : K.Rule) (hk : l[k]? = some r) (hE : K.ruleE r = 0) (hm : K.matchB r (A ++ Z) A.length = true) :
    Calls Tryz.prog 52 #[.pointer (some ⟨mb, 0, none⟩), .int .i64 k] w fun e w' => ∃ x : Int, e = .returned (.int .i64 x) ∧
      ((4000 < A.length + (K.restOf r Z).length ∧ x = 4 ∧ Below b w w') ∨ (¬ 4000 < A.length + (K.restOf r Z).length ∧ x = 0 ∧ Gm.Mx b ms mb wb w' g vr vh l c (A ++ (K.restOf r Z).take r.cursor.toNat) ((K.restOf r Z).drop r.cursor.toNat) ∧ Gm.Fr ⟨b, ms⟩ w w')) := by
  have hs : r.source.length ≤ Z.length := by
    refine Nat.le_of_not_lt fun h => ?_
    have := K.match_no (r := r) (t := A ++ Z) (at_ := A.length) (K.ruleE_zero hE).2.2.2.1 (.inr (.inl (by rw [List.length_append]; omega)))
    rw [this] at hm
    cases hm
  have hwb : Below wb.heap.size wb w := M.bel
  have hkl := (List.getElem?_eq_some_iff.1 hk).1
  have hlf := M.rus.few
  have hRus := M.rus
  obtain ⟨ao, cap, rfl⟩ := M.rus.len
  obtain ⟨ba, oa, bo, bc, so, sc, ao2, ac, tt, tc, rfl, a0, a1, a2, a3, a4, a5, a6, hP⟩ := K.Rus.rule hRus hk
  have lift : ∀ b o x, wb.cell? ⟨b, o, none⟩ = some x → w.cell? ⟨b, o, none⟩ = some x := fun b o x h => by rw [(L.bcell hwb).1 b o (L.block_lt h)]; exact h
  replace a0 := lift _ _ _ a0
  replace a1 := lift _ _ _ a1
  replace a2 := lift _ _ _ a2
  replace a3 := lift _ _ _ a3
  replace a4 := lift _ _ _ a4
  replace a5 := lift _ _ _ a5
  replace a6 := lift _ _ _ a6
  have k1 : w.cell? ⟨mb, 1, none⟩ = some (.slice (some ⟨ba, oa, none⟩) l.length cap) := K.at_box (i := 1) M.box rfl
  have HRp := xreplace_any b ms mb wb w g _ vh l c A Z M _ r hP hE hs
  have HRP : Hid (Calls Tryz.prog 65 #[.pointer (some ⟨mb, 0, none⟩), .agg #[.bool r.start, .bool r.fin, .slice bo r.before.length bc, .slice so r.source.length sc, .slice ao2 r.after.length ac, .slice tt r.target.length tc, .int .i64 r.cursor]] w fun e w' => ∃ x : Int, e = .returned (.int .i64 x) ∧
      ((4000 < A.length + (K.restOf r Z).length ∧ x = 4 ∧ Below b w w') ∨ (¬ 4000 < A.length + (K.restOf r Z).length ∧ x = 0 ∧ Gm.Mx b ms mb wb w' g (.slice (some ⟨ba, oa, none⟩) l.length cap) vh l c (A ++ (K.restOf r Z).take r.cursor.toNat) ((K.restOf r Z).drop r.cursor.toNat) ∧ Gm.Fr ⟨b, ms⟩ w w'))) := HRp
  clear HRp hP lift hRus hwb hk hE hm hs M
  obtain ⟨st, fi, be, sou, af, ta, cu⟩ := r
  simp only at a0 a1 a2 a3 a4 a5 a6 HRP
  go_enter Tryz.func52, Tryz.ntmps52
  go_wp2_with fail
  go_at_call 65
  refine HRP.out.mono ?_
  rintro e w1 ⟨x, rfl, h1⟩
  have H1 : Hid _ := h1
  clear h1
  go_wp2
  go_ret
  exact ⟨x, rfl, H1.out⟩

end Go.Proofs.YtlmmjefplbcapaaGreat

/-
  The machine plays: (*vm.machine).play, whatever each step is told to.
-/
namespace Go.Proofs.YtlmmjefplbcapaaGreat
open Go.RowKit Go.Shelf
set_option maxRecDepth 20000
set_option linter.unusedSimpArgs false
set_option linter.unusedVariables false

theorem Gm.Mx.box1 {b : Nat} {ms : List Nat} {mb : Nat} {wb w : World} {g : Nat} {vr vh : Value} {l : List K.Rule} {c A Z : List Int} (M : Gm.Mx b ms mb wb w g vr vh l c A Z) (o : Obj) : Gm.Mx b (w.heap.size :: ms) mb wb (w.alloc o) g vr vh l c A Z := by
  have M2 := M.below ((Below.refl _ w).alloc (Nat.le_refl _) o)
  obtain ⟨ao, cur, hT⟩ := M.tx
  have hgs := hT.box.lt
  refine ⟨M2.base, M2.bel, M2.box, List.mem_cons_of_mem _ M.mem, fun j hj => ?_, ⟨ao, cur, (hT.kept fun k hk => ((Below.refl w.heap.size w).alloc (Nat.le_refl _) o).block k hk).re ⟨hT.hB.1, fun e => ?_⟩ fun q hq => ?_⟩, M2.rus, M2.hd⟩
  · rcases List.mem_cons.1 hj with rfl | hj
    · simp
    · have := M.old j hj; simp; omega
  · rcases List.mem_cons.1 e with e | e
    · omega
    · exact hT.hB.2 e
  · have h1 := hT.room.lt q hq
    refine ⟨h1.1.1, fun e => ?_⟩
    rcases List.mem_cons.1 e with e | e
    · omega
    · exact h1.1.2 e
theorem Gm.Mx.less {b : Nat} {ms ns : List Nat} {mb : Nat} {wb w : World} {g : Nat} {vr vh : Value} {l : List K.Rule} {c A Z : List Int} (M : Gm.Mx b ns mb wb w g vr vh l c A Z) (hm : mb ∈ ms) (hs : ∀ j ∈ ms, j ∈ ns) : Gm.Mx b ms mb wb w g vr vh l c A Z := by
  obtain ⟨ao, cur, hT⟩ := M.tx
  refine ⟨M.base, M.bel, M.box, hm, fun j hj => M.old j (hs j hj), ⟨ao, cur, hT.re ⟨hT.hB.1, fun e => hT.hB.2 (hs _ e)⟩ fun q hq => ?_⟩, M.rus, M.hd⟩
  have h1 := hT.room.lt q hq
  exact ⟨h1.1.1, fun e => h1.1.2 (hs _ e)⟩

set_option maxHeartbeats 400000 in
theorem xmost_any (w : World) (n : Nat) (hn : n ≤ 4000) : Calls Tryz.prog 48 #[.int .i64 (n : Int)] w fun e w' => e = .returned (.int .i64 (8 * (n : Int) + 40)) ∧ w' = w := by
  have e1 : IntKind.i64.wrap (8 * (n : Int)) = 8 * (n : Int) := by rw [IntKind.wrap_i64]; omega
  have e2 : IntKind.i64.wrap (8 * (n : Int) + 40) = 8 * (n : Int) + 40 := by rw [IntKind.wrap_i64]; omega
  go_enter Tryz.func48, Tryz.ntmps48
  go_wp2
  go_ret
  exact ⟨by simp [e1, e2], rfl⟩

/-- what is right lies in range -/
theorem Gm.right_range {l : List Int} (h : K.allR l = true) : ∀ x ∈ l, 0 ≤ x ∧ x ≤ 1114111 := fun x hx => by
  have := List.all_eq_true.1 h x hx
  unfold M.right at this
  simp at this
  omega

theorem Gm.allR_app {a b : List Int} : K.allR (a ++ b) = true ↔ K.allR a = true ∧ K.allR b = true := by simp [K.allR]
theorem Gm.allR_sub {a b : List Int} (h : K.allR a = true) (hs : ∀ x ∈ b, x ∈ a) : K.allR b = true := List.all_eq_true.2 fun x hx => List.all_eq_true.1 h x (hs x hx)

/-- a step, whatever rule it is that matches -/
theorem xstep_all (b : Nat) (ms : List Nat) (mb : Nat) (wb w : World) (g : Nat) (vr vh : Value) (l : List K.Rule) (c : List Int) (A Z : List Int) (M : Gm.Mx b ms mb wb w g vr vh l c A Z) (O : Gm.Ok l c) (hz : 0 < Z.length) (hR : K.allR (A ++ Z) = true) :
    Calls Tryz.prog 52 #[.pointer (some ⟨mb, 0, none⟩), .int .i64 (K.which l (A ++ Z) A.length)] w fun e w' => ∃ x : Int, e = .returned (.int .i64 x) ∧
      ((x = 4 ∧ Below b w w' ∧ ∀ left s p, K.play l (left + 1) A Z s p = (4, [], 0, 0)) ∨
       (x = 0 ∧ ∃ A' Z', Gm.Mx b ms mb wb w' g vr vh l c A' Z' ∧ Gm.Fr ⟨b, ms⟩ w w' ∧ K.allR (A' ++ Z') = true ∧ ∀ left s p, K.play l (left + 1) A Z s p = K.play l left A' Z' (s + 1) (p + if K.which l (A ++ Z) A.length = -1 then 0 else 1))) := by
  have hzn : ¬ Z.length = 0 := by omega
  rcases K.which_is (l := l) (t := A ++ Z) (k := (A.length : Int)) with hw | ⟨j, r, hj, hm, hw⟩
  · have h := xstep_no b ms mb wb w g vr vh l c A Z M hz
    rw [hw]
    refine h.mono ?_
    rintro e w' ⟨rfl, h1, h2⟩
    refine ⟨0, rfl, .inr ⟨rfl, _, _, h1, h2, ?_, fun left s p => ?_⟩⟩
    · rw [List.append_assoc, List.take_append_drop]; exact hR
    · rw [K.play_on hzn hw, if_pos rfl, Int.add_zero]
  · have h := xstep_yes b ms mb wb w g vr vh l c A Z M j r hj (O.right r (List.mem_of_getElem? hj)) hm
    rw [hw]
    refine h.mono ?_
    rintro e w' ⟨x, rfl, ⟨h1, rfl, h2⟩ | ⟨h1, rfl, h2, h3⟩⟩
    · exact ⟨4, rfl, .inl ⟨rfl, h2, fun left s p => K.play_much hzn hw hj h1⟩⟩
    · refine ⟨0, rfl, .inr ⟨rfl, _, _, h2, h3, ?_, fun left s p => ?_⟩⟩
      · rw [List.append_assoc, List.take_append_drop]
        obtain ⟨g1, g2⟩ := Gm.allR_app.1 hR
        refine Gm.allR_app.2 ⟨g1, Gm.allR_app.2 ⟨(K.ruleE_zero (O.right r (List.mem_of_getElem? hj))).2.2.2.2.2.1, Gm.allR_sub g2 fun x hx => List.mem_of_mem_drop hx⟩⟩
      · rw [K.play_put hzn hw hj h1, if_neg (by omega)]

end Go.Proofs.YtlmmjefplbcapaaGreat
