/-
 What scriptref1.Same answers of two slices of runes: whether they read as the same list.
-/
import Derived.Test.YtmlnanbpbbpekaaGreatDoorRows
import Derived.Test.YtmlnanbpbbpekaaGreatDoorSLib
import Derived.Deep.QuietTactic
import Derived.BigQuiet
import Derived.Test.YtmlnanbpbbpekaaGreatDoorTpAlive
import Derived.Test.YtmlnanbpbbpekaaGreatDoorTSetAll
import Derived.MapKept
import Derived.ChangeMaps4
set_option maxRecDepth 20000
namespace Go.Proofs.YtmlnanbpbbpekaaGreatDoor
open Go.RowKit
theorem take_eq_snoc {a b : List Int} {k : Nat} {x y : Int} (h : a.take k = b.take k) (hx : a[k]? = some x) (hy : b[k]? = some y) (e : x = y) : a.take (k + 1) = b.take (k + 1) := by
 rw [List.take_add_one, List.take_add_one, h, hx, hy, e]
set_option maxHeartbeats 400000 in
theorem rsame_any (w : World) (va vb : Value) (za zb : List Int) (ha : L.Rd w va .i32 za) (hb : L.Rd w vb .i32 zb) (hla : za.length <= 4611686018427387903) (hlb : zb.length <= 4611686018427387903) :
  Calls Tryz.prog 17 #[va, vb] w fun e w' => e = .returned (.bool (decide (za = zb))) /\ Below w.heap.size w w' := by
 obtain ⟨ao, ca, rfl, _, ha⟩ := ha
 obtain ⟨bo, cb, rfl, _, hb⟩ := hb
 by_cases hl : za.length = zb.length
 ·go_enter Tryz.func17, Tryz.ntmps17
  go_wp2
  go_loopw [13] (fun i wr => ∃ k n : Nat, k <= za.length /\ i = .int .i64 k /\ za.take k = zb.take k /\ wr = w.drewN n) (fun i _ => za.length - (intOf i).toNat)
  case atStart => exact ⟨0, 0, Nat.zero_le _, rfl, by simp, rfl⟩
  case round =>
   obtain ⟨k, n, hk, rfl, ht, rfl⟩ := hrel
   by_cases hlt : k < za.length
   ·obtain ⟨b1, o1, rfl, hc1⟩ := ha (by intro h; subst h; simp at hlt)
    obtain ⟨b2, o2, rfl, hc2⟩ := hb (by intro h; subst h; simp at hl; rw [hl] at hlt; simp at hlt)
    obtain ⟨x, hx⟩ : ∃ x, za[k]? = some x := ⟨za[k], by simp [hlt]⟩
    obtain ⟨y, hy⟩ : ∃ y, zb[k]? = some y := ⟨zb[k]'(by omega), by simp [show k < zb.length by omega]⟩
    have c1 := hc1 k x hx
    have c2 := hc2 k y hy
    clear hc1 hc2 ha hb
    have HX : Hid (za[k]? = some x /\ zb[k]? = some y /\ za.take k = zb.take k) := ⟨hx, hy, ht⟩
    clear hx hy ht
    by_cases hxy : x = y
    ·go_wp2
     go_quiet (fail)
     go_wp2
     go_roundw
     case rel => exact ⟨k + 1, _, by omega, by go_num, take_eq_snoc HX.out.2.2 HX.out.1 HX.out.2.1 hxy, rfl⟩
     case measure => simp [intOf]; omega
    ·go_wp2
     go_quiet (fail)
     go_wp2
     go_ret
     refine ⟨L.ret_bool ?_, below_drewN (below_drewN (Below.refl _ _) _) _⟩
     have : za ≠ zb := by
      intro e
      rw [e] at HX
      have h1 := HX.out.1
      rw [HX.out.2.1] at h1
      exact hxy (Option.some.inj h1).symm
     simp [this]
   ·go_wp2
    go_ret
    refine ⟨L.ret_bool ?_, below_drewN (Below.refl _ _) _⟩
    rw [List.take_of_length_le (by omega), List.take_of_length_le (by omega)] at ht
    simp [ht]
 ·go_enter Tryz.func17, Tryz.ntmps17
  go_wp2
  go_ret
  refine ⟨L.ret_bool ?_, Below.refl _ _⟩
  have : za ≠ zb := by intro e; exact hl (by rw [e])
  simp [this]
end Go.Proofs.YtmlnanbpbbpekaaGreatDoor
namespace Go.Proofs.YtmlnanbpbbpekaaGreatDoor
open Go.RowKit Go.Lib
set_option linter.unusedSimpArgs false
set_option linter.unusedVariables false
namespace Cn
theorem cut_congr {P Q : Int -> Bool} : ∀ {t : List Int}, (∀ r ∈ t, P r = Q r) -> cut P t = cut Q t := by
 intro t
 induction t with
 | nil => intro _; rfl
 | cons r t ih =>
  intro h
  rw [cut, cut, h r List.mem_cons_self, ih fun x hx => h x (List.mem_cons_of_mem _ hx)]
theorem go_all {pl : Pl} {s : V.Script} (h : s.has = false) (t : List Int) : goF pl ⟨true, [(0, 1114111)], s.passes⟩ t = goF pl s t := by
 have hw : wrongF ⟨true, [(0, 1114111)], s.passes⟩ = wrongF s := by
  have e1 : ¬ (((⟨true, [(0, 1114111)], s.passes⟩ : V.Script).has = true) /\ ¬ S.wrongE (⟨true, [(0, 1114111)], s.passes⟩ : V.Script).only = 0) := fun h2 => h2.2 (show S.wrongE [(0, 1114111)] = 0 by decide +kernel)
  have e2 : ¬ (s.has = true /\ ¬ S.wrongE s.only = 0) := fun h2 => by rw [h] at h2; cases h2.1
  unfold wrongF
  rw [if_neg e1, if_neg e2]
 unfold goF
 rw [hw]
 by_cases h1 : (wrongF s).1 = 0
 ·rw [if_pos h1, if_pos h1]
  by_cases h2 : K.textE t = 0
  ·rw [if_pos h2, if_pos h2]
   have hT := text_tx.1 h2
   have hc : cut (inS ⟨true, [(0, 1114111)], s.passes⟩) t = cut (inS s) t := cut_congr fun r hr => by
    have := hT.range r hr
    unfold inS
    rw [h]
    have hm : S.memb [(0, 1114111)] r = true := S.memb_iff.2 ⟨(0, 1114111), List.mem_singleton.2 rfl, this.1, this.2⟩
    rw [hm]; rfl
   rw [hc]
  ·rw [if_neg h2, if_neg h2]
 ·rw [if_neg h1, if_neg h1]
theorem pl_len {pl : Pl} (h : PlOk pl) (s : V.Script) (t : List Int) : (goF pl s t).1.length <= 16000000 := by
 unfold goF
 split
 ·split
  ·split
   ·split
    ·simp
    ·show (runP pl s.passes (cut (inS s) t) []).1.length <= _
     omega
   ·simp
  ·simp
 ·simp
end Cn
set_option maxHeartbeats 16000000 in
theorem topAny_any (hK : T.ClassOk) (w : World) (fs ts : ByteArray) (hfs : fs.size <= 1099511627776) (hts : ts.size <= 1099511627776) :
  Calls Tryz.prog 8 #[.string fs, .string ts] w fun e w' => e = .returned (.bool true) /\ Below w.heap.size w w' := by
 obtain ⟨pl, hpl⟩ := Cn.pl_some
 have HSc : Hid (∀ X, Calls Tryz.prog 10 #[.string fs] X fun e w' => ∃ v', e = .returned (.tuple #[v', .bool (Tp.scriptF (M.rn fs)).2]) /\ V.ScIs w' v' (Tp.scriptF (M.rn fs)).1 /\ Below X.heap.size X w') := fun X => tScript_any hK fs hfs X
 have hfit := Tp.scriptF_fit (M.rn fs)
 obtain ⟨⟨sc, ok⟩, hsc⟩ : ∃ o, Tp.scriptF (M.rn fs) = o := ⟨_, rfl⟩
 rw [hsc] at HSc hfit
 simp only at HSc hfit
 have HDe : Hid (∀ X, Calls Tryz.prog 11 #[.string ts] X fun e w' => ∃ xo xc, e = .returned (.slice xo (M.rn ts).length xc) /\ L.Rd w' (.slice xo (M.rn ts).length xc) .i32 (M.rn ts) /\ (M.rn ts).length <= xc /\ Below X.heap.size X w') := fun X => Tp.decode ts hts X
 have hrl : (M.rn ts).length <= 140737488355328 := by have := M.rn_length ts; omega
 generalize M.rn ts = t at *
 clear hsc
 go_enter Tryz.func8, Tryz.ntmps8
 go_wp2_with fail
 refine (tAlive_any hK w).mono ?_
 rintro e w1 ⟨rfl, b1⟩
 have HB1 : Hid (Below w.heap.size w w1) := b1
 clear b1
 go_wp2_with fail
 refine (HSc.out _).mono ?_
 rintro e w2 ⟨v2, rfl, hS2, b2⟩
 have HB2 : Hid (Below w.heap.size w w2) := HB1.out.trans (b2.mono HB1.out.size)
 have HA2 : Hid (∀ o, Below w.heap.size w (w2.alloc o)) := fun o => HB2.out.alloc HB2.out.size o
 clear b2 HSc HB1
 obtain ⟨oo, oc, po, pc, rfl, hO, hOl, hP⟩ := id hS2
 cases ok with
 | false =>
  clear HDe
  go_wp2
  go_ret
  exact ⟨rfl, HA2.out _⟩
 | true =>
  obtain ⟨hsh, only, passes⟩ := sc
  cases hsh with
  | true =>
   clear HDe
   go_wp2
   go_ret
   exact ⟨rfl, HA2.out _⟩
  | false =>
   simp only at hS2 hO hOl hP hfit
   obtain ⟨Z, hZ⟩ : ∃ Z, Z = ((w2.alloc (.cells #[.bool false, .slice oo only.length oc, .slice po passes.length pc] 26)).alloc (.cells #[.bool true, .slice (some ⟨w2.heap.size + 1 + 1, 0, none⟩) 1 1, .slice po passes.length pc] 26)).alloc (.cells #[.int .i32 0, .int .i32 1114111] 67) := ⟨_, rfl⟩
   have k3 := Tp.three w2 (.cells #[.bool false, .slice oo only.length oc, .slice po passes.length pc] 26) (.cells #[.bool true, .slice (some ⟨w2.heap.size + 1 + 1, 0, none⟩) 1 1, .slice po passes.length pc] 26) (.cells #[.int .i32 0, .int .i32 1114111] 67)
   rw [<- hZ] at k3
   obtain ⟨x1, x2, x3, x4⟩ := k3
   have hsp : S.Rd Z (.slice (some ⟨w2.heap.size + 1 + 1, 0, none⟩) 1 1) [(0, 1114111)] := ⟨_, 1, rfl, fun h => by simp at h, fun _ => ⟨w2.heap.size + 1 + 1, 0, rfl, fun j x hj => by
    match j, hj with
    | 0, hj => simp at hj; subst hj; exact ⟨K.at_box (i := 0) x3 rfl, K.at_box (i := 1) x3 rfl⟩
    | j + 1, hj => simp at hj⟩⟩
   have HScs : Hid (V.ScIs Z (.agg #[.bool false, .slice oo only.length oc, .slice po passes.length pc]) ⟨false, only, passes⟩) := hS2.below x4
   have HScu : Hid (V.ScIs Z (.agg #[.bool true, .slice (some ⟨w2.heap.size + 1 + 1, 0, none⟩) 1 1, .slice po passes.length pc]) ⟨true, [(0, 1114111)], passes⟩) := ⟨_, 1, po, pc, rfl, hsp, by simp, hP.below x4⟩
   have HZ : Hid (Z.heap[w2.heap.size + 1]? = some (.cells #[.bool true, .slice (some ⟨w2.heap.size + 1 + 1, 0, none⟩) 1 1, .slice po passes.length pc] 26) /\ Below w.heap.size w Z) := ⟨x2, HB2.out.trans (x4.mono HB2.out.size)⟩
   have HAta : Hid (Tp.At Z Z w2.heap.size (.bool false) (.slice oo only.length oc) (.slice po passes.length pc)) := ⟨Below.refl _ _, K.at_box (i := 0) x1 rfl, K.at_box (i := 1) x1 rfl, K.at_box (i := 2) x1 rfl⟩
   have hsba : w2.heap.size < Z.heap.size := lt_of_block x1
   have hlen := Cn.pl_len hpl ⟨false, only, passes⟩ t
   have hgo := Cn.go_all (pl := pl) (s := ⟨false, only, passes⟩) rfl t
   have HGa : Hid (∀ X xo xc, Tp.At Z X w2.heap.size (.bool false) (.slice oo only.length oc) (.slice po passes.length pc) -> L.Rd X (.slice xo t.length xc) .i32 t -> t.length <= xc -> Calls Tryz.prog 12 #[.agg #[.bool false, .slice oo only.length oc, .slice po passes.length pc], .slice xo t.length xc] X fun e w' => ∃ v', e = .returned (.tuple #[v', .agg #[.int .i64 (Cn.goF pl ⟨false, only, passes⟩ t).2.1, .int .i64 (Cn.goF pl ⟨false, only, passes⟩ t).2.2]]) /\ L.Rd w' v' .i32 (Cn.goF pl ⟨false, only, passes⟩ t).1 /\ Below X.heap.size X w') := fun X xo xc hX hd hc =>
    cGo_any pl hpl X _ ⟨false, only, passes⟩ (HScs.out.below hX.1) hfit xo xc t hd hc hrl
   have HGb : Hid (∀ Z', Below Z.heap.size Z Z' -> ∀ X xo xc, Tp.At Z' X (w2.heap.size + 1) (.bool true) (.slice (some ⟨w2.heap.size + 1 + 1, 0, none⟩) 1 1) (.slice po passes.length pc) -> L.Rd X (.slice xo t.length xc) .i32 t -> t.length <= xc -> Calls Tryz.prog 12 #[.agg #[.bool true, .slice (some ⟨w2.heap.size + 1 + 1, 0, none⟩) 1 1, .slice po passes.length pc], .slice xo t.length xc] X fun e w' => ∃ v', e = .returned (.tuple #[v', .agg #[.int .i64 (Cn.goF pl ⟨false, only, passes⟩ t).2.1, .int .i64 (Cn.goF pl ⟨false, only, passes⟩ t).2.2]]) /\ L.Rd w' v' .i32 (Cn.goF pl ⟨false, only, passes⟩ t).1 /\ Below X.heap.size X w') := fun Z' hZ' X xo xc hX hd hc => by
    have h := cGo_any pl hpl X _ ⟨true, [(0, 1114111)], passes⟩ ((HScu.out.below hZ').below hX.1) (fun x hx => by simp at hx; subst hx; decide) xo xc t hd hc hrl
    rw [hgo] at h
    exact h
   generalize Cn.goF pl ⟨false, only, passes⟩ t = g at *
   obtain ⟨ga, g1, g2⟩ := g
   simp only at HGa HGb hlen
   clear hgo hsp x1 x2 x3 x4 hS2 hO hOl hP HA2 HB2 HScs HScu
   go_upto_region 8 with fail
   rw [<- hZ]
   clear hZ
   have HKa : Hid (Tp.At Z Z.drew (w2.heap.size) (.bool false) (.slice oo only.length oc) (.slice po passes.length pc)) := HAta.out.drew
   have HKDa : Hid (∀ o, Tp.At Z (Z.alloc o).drew (w2.heap.size) (.bool false) (.slice oo only.length oc) (.slice po passes.length pc)) := fun o => (HAta.out.alloc o).drew
   go_cut [8, 9] (fun va vf wx => Hid (Tp.Got Z wx va vf (ga, g1, g2)))
   case first =>
    go_region_held3 (fun w' => Below Z.heap.size Z w' /\ w'.cell? ⟨w2.heap.size, 0, none⟩ = some (.bool false) /\ w'.cell? ⟨w2.heap.size, 1, none⟩ = some (.slice oo only.length oc) /\ w'.cell? ⟨w2.heap.size, 2, none⟩ = some (.slice po passes.length pc))
     (first | with_reducible exact HKa.out | with_reducible exact k2 | with_reducible exact k1 | with_reducible exact k2.alloc _ | with_reducible exact k1.alloc _ | with_reducible exact HKa.out.alloc _ | with_reducible exact HKDa.out _ | with_reducible exact Tp.At.set2 k2 hsba k1.1.size _ _ | with_reducible exact Tp.At.set2 k2 hsba (Nat.le_refl _) _ _ | fail)
     (first
      | (have hy := k1; clear hy; go_at_call 12; refine (HGa.out _ _ _ (by first | with_reducible exact k1 | with_reducible exact k1.alloc _) (by first | with_reducible exact d1 | with_reducible exact d1.below (Cn.al _ _) (Nat.le_refl _)) hc1).mono ?_; rintro e wd2 ⟨vd2, rfl, d2, z2⟩; have k2 : Tp.At Z wd2 (w2.heap.size) (.bool false) (.slice oo only.length oc) (.slice po passes.length pc) := (by first | with_reducible exact k1.below z2 | with_reducible exact (k1.alloc _).below z2); first | (have r2 := K.blk_below r1 z2; obtain ⟨y0, y1, ff0, ff1⟩ := V.box2 r2) | (have r2 := Cn.rb z2; obtain ⟨y0, y1, ff0, ff1⟩ := V.box2 r2) | skip)
      | ((fail_if_success (have hy := k1)); go_at_call 11; refine (HDe.out _).mono ?_; rintro e wd1 ⟨xo1, xc1, rfl, d1, hc1, z1⟩; have k1 : Tp.At Z wd1 (w2.heap.size) (.bool false) (.slice oo only.length oc) (.slice po passes.length pc) := (by first | with_reducible exact HKa.out.below z1 | with_reducible exact (HKa.out.alloc _).below z1 | with_reducible exact (HKDa.out _).below z1); first | (have r1 := Cn.rbD z1) | skip)
      | fail)
    all_goals
     first
      | (have HM := Tp.got_set (r1 := g1) (r2 := g2) k2 hsba d2 r2 (by first | with_reducible exact k1.1.size | with_reducible exact Nat.le_refl _))
      | (have HM := Tp.got_end (r1 := g1) (r2 := g2) k2 d2)
     clear k2 k1 d2 d1 z2 z1
     go_wp2_with fail
     go_meet
     case rel => exact HM
   case rest =>
    obtain ⟨fb, rfl, hfb, hbox, hrd, hbl⟩ := hcut.out
    obtain ⟨va, vc, rfl⟩ : ∃ va vc, _ = Value.slice va ga.length vc := by obtain ⟨a, c, h, _⟩ := hrd; exact ⟨a, c, h⟩
    have hub := K.blk_below HZ.out.1 hbl
    have HGc := HGb.out wc hbl
    have HGd : Hid (∀ X xo xc, Tp.At wc X (w2.heap.size + 1) (.bool true) (.slice (some ⟨w2.heap.size + 1 + 1, 0, none⟩) 1 1) (.slice po passes.length pc) -> L.Rd X (.slice xo t.length xc) .i32 t -> t.length <= xc -> Calls Tryz.prog 12 #[.agg #[.bool true, .slice (some ⟨w2.heap.size + 1 + 1, 0, none⟩) 1 1, .slice po passes.length pc], .slice xo t.length xc] X fun e w' => ∃ v', e = .returned (.tuple #[v', .agg #[.int .i64 g1, .int .i64 g2]]) /\ L.Rd w' v' .i32 ga /\ Below X.heap.size X w') := HGc
    have HAtb : Hid (Tp.At wc wc (w2.heap.size + 1) (.bool true) (.slice (some ⟨w2.heap.size + 1 + 1, 0, none⟩) 1 1) (.slice po passes.length pc)) := ⟨Below.refl _ _, K.at_box (i := 0) hub rfl, K.at_box (i := 1) hub rfl, K.at_box (i := 2) hub rfl⟩
    have hsbb : w2.heap.size + 1 < wc.heap.size := lt_of_block hub
    have HC : Hid (wc.heap[fb]? = some (.cells #[.int .i64 g1, .int .i64 g2] 33) /\ L.Rd wc (.slice va ga.length vc) .i32 ga /\ Below w.heap.size w wc) := ⟨hbox, hrd, HZ.out.2.trans (hbl.mono HZ.out.2.size)⟩
    obtain ⟨Y, hY⟩ : ∃ Y, Y = wc := ⟨_, rfl⟩
    subst hY
    clear hcut hbox hrd hbl HGa HGb HGc HKa HKDa HAta HZ hub
    go_wp2
    have HKb : Hid (Tp.At Y Y.drew (w2.heap.size + 1) (.bool true) (.slice (some ⟨w2.heap.size + 1 + 1, 0, none⟩) 1 1) (.slice po passes.length pc)) := HAtb.out.drew
    have HKDb : Hid (∀ o, Tp.At Y (Y.alloc o).drew (w2.heap.size + 1) (.bool true) (.slice (some ⟨w2.heap.size + 1 + 1, 0, none⟩) 1 1) (.slice po passes.length pc)) := fun o => (HAtb.out.alloc o).drew
    go_cut [10, 11] (fun va vf wx => Hid (Tp.Got Y wx va vf (ga, g1, g2)))
    case first =>
     go_region_held3 (fun w' => Below Y.heap.size Y w' /\ w'.cell? ⟨w2.heap.size + 1, 0, none⟩ = some (.bool true) /\ w'.cell? ⟨w2.heap.size + 1, 1, none⟩ = some (.slice (some ⟨w2.heap.size + 1 + 1, 0, none⟩) 1 1) /\ w'.cell? ⟨w2.heap.size + 1, 2, none⟩ = some (.slice po passes.length pc))
      (first | with_reducible exact HKb.out | with_reducible exact k2 | with_reducible exact k1 | with_reducible exact k2.alloc _ | with_reducible exact k1.alloc _ | with_reducible exact HKb.out.alloc _ | with_reducible exact HKDb.out _ | with_reducible exact Tp.At.set2 k2 hsbb k1.1.size _ _ | with_reducible exact Tp.At.set2 k2 hsbb (Nat.le_refl _) _ _ | fail)
      (first
       | (have hy := k1; clear hy; go_at_call 12; refine (HGd.out _ _ _ (by first | with_reducible exact k1 | with_reducible exact k1.alloc _) (by first | with_reducible exact d1 | with_reducible exact d1.below (Cn.al _ _) (Nat.le_refl _)) hc1).mono ?_; rintro e wd2 ⟨vd2, rfl, d2, z2⟩; have k2 : Tp.At Y wd2 (w2.heap.size + 1) (.bool true) (.slice (some ⟨w2.heap.size + 1 + 1, 0, none⟩) 1 1) (.slice po passes.length pc) := (by first | with_reducible exact k1.below z2 | with_reducible exact (k1.alloc _).below z2); first | (have r2 := K.blk_below r1 z2; obtain ⟨y0, y1, ff0, ff1⟩ := V.box2 r2) | (have r2 := Cn.rb z2; obtain ⟨y0, y1, ff0, ff1⟩ := V.box2 r2) | skip)
       | ((fail_if_success (have hy := k1)); go_at_call 11; refine (HDe.out _).mono ?_; rintro e wd1 ⟨xo1, xc1, rfl, d1, hc1, z1⟩; have k1 : Tp.At Y wd1 (w2.heap.size + 1) (.bool true) (.slice (some ⟨w2.heap.size + 1 + 1, 0, none⟩) 1 1) (.slice po passes.length pc) := (by first | with_reducible exact HKb.out.below z1 | with_reducible exact (HKb.out.alloc _).below z1 | with_reducible exact (HKDb.out _).below z1); first | (have r1 := Cn.rbD z1) | skip)
       | fail)
     all_goals
      first
       | (have HM := Tp.got_set (r1 := g1) (r2 := g2) k2 hsbb d2 r2 (by first | with_reducible exact k1.1.size | with_reducible exact Nat.le_refl _))
       | (have HM := Tp.got_end (r1 := g1) (r2 := g2) k2 d2)
      clear k2 k1 d2 d1 z2 z1
      go_wp2_with fail
      go_meet
      case rel => exact HM
    case rest =>
     obtain ⟨fb2, rfl, hfb2, hbox2, hrd2, hbl2⟩ := hcut.out
     obtain ⟨vb, vd, rfl⟩ : ∃ va vc, _ = Value.slice va ga.length vc := by obtain ⟨a, c, h, _⟩ := hrd2; exact ⟨a, c, h⟩
     have hf1 := K.blk_below HC.out.1 hbl2
     obtain ⟨p0, p1, _, _⟩ := V.box2 hf1
     obtain ⟨q0, q1, _, _⟩ := V.box2 hbox2
     have hSm := rsame_any wc _ _ ga ga (HC.out.2.1.below hbl2 (Nat.le_refl _)) hrd2 (by omega) (by omega)
     have HE : Hid (Below w.heap.size w wc) := HC.out.2.2.trans (hbl2.mono HC.out.2.2.size)
     clear hcut hbox2 hrd2 hbl2 hf1 HC HGd HDe HKb HKDb HAtb
     go_wp2_with fail
     refine hSm.mono ?_
     rintro e w9 ⟨rfl, b9⟩
     have HE9 : Hid (Below w.heap.size w w9) := HE.out.trans (b9.mono HE.out.size)
     clear b9 hSm
     go_wp2
     go_ret
     exact ⟨by simp, HE9.out⟩
end Go.Proofs.YtmlnanbpbbpekaaGreatDoor
namespace Go.Proofs.YtmlnanbpbbpekaaGreatDoor
open Go.RowKit
def T.Cls (w : World) (b : Nat) (ents : List (ByteArray × List S.Sp)) : Prop :=
 ∃ (es : Array MapEntry) (clock : Nat), w.heap[b]? = some (.map es clock) /\ es.toList.length = ents.length /\ ∀ (i : Nat) (e : MapEntry) (x : ByteArray × List S.Sp), es.toList[i]? = some e -> ents[i]? = some x -> e.key = .string x.1 /\ S.Rd w e.val x.2
theorem cls_new (w : World) : T.Cls (w.alloc (.map #[] 0)) w.heap.size [] := ⟨#[], 0, heap_alloc_new w _, rfl, fun i e x h => by simp at h⟩
theorem cls_below {w w' : World} {b : Nat} {ents : List (ByteArray × List S.Sp)} (h : T.Cls w b ents) (hb : Below w.heap.size w w') : T.Cls w' b ents := by
 obtain ⟨es, clock, h1, h2, h3⟩ := h
 exact ⟨es, clock, by rw [hb.block b (Array.getElem?_eq_some_iff.1 h1).1]; exact h1, h2, fun i e x he hx => ⟨(h3 i e x he hx).1, (h3 i e x he hx).2.below hb (Nat.le_refl _)⟩⟩
theorem find_none (s : ByteArray) : ∀ (l : List MapEntry) (i : Nat), (∀ e ∈ l, ∃ t, e.key = .string t /\ t ≠ s) -> Instr.findNow .string (.string s) l i = some none
 | [], _, _ => rfl
 | e :: l, i, h => by
  obtain ⟨t, ht, hne⟩ := h e (by simp)
  have hb : (s == t) = false := by
   apply Bool.eq_false_iff.2
   intro hh
   exact hne ((MapKept.bytes_beq _ _).1 hh).symm
  simp only [Instr.findNow, ht, Instr.sameNow, hb]
  exact find_none s l (i + 1) fun e' he' => h e' (by simp [he'])
theorem find_some (s : ByteArray) : ∀ (l : List MapEntry) (i : Nat), (∀ e ∈ l, ∃ t, e.key = .string t) -> (∃ e ∈ l, e.key = .string s) -> ∃ j e, Instr.findNow .string (.string s) l i = some (some (j, e.val)) /\ e ∈ l /\ e.key = .string s
 | [], _, _, h => by obtain ⟨e, he, _⟩ := h; simp at he
 | e :: l, i, hk, h => by
  obtain ⟨t, ht⟩ := hk e (by simp)
  by_cases hst : s = t
  ·subst hst
   exact ⟨i, e, by simp only [Instr.findNow, ht, Instr.sameNow, (MapKept.bytes_beq s s).2 rfl], by simp, ht⟩
  ·have hb : (s == t) = false := by
    apply Bool.eq_false_iff.2
    intro hh
    exact hst ((MapKept.bytes_beq _ _).1 hh)
   obtain ⟨e0, he0, hk0⟩ := h
   have hm : e0 ∈ l := by
    rcases List.mem_cons.1 he0 with rfl | hm
    ·rw [ht] at hk0; cases hk0; exact absurd rfl hst
    ·exact hm
   obtain ⟨j, e1, h1, h2, h3⟩ := find_some s l (i + 1) (fun x hx => hk x (by simp [hx])) ⟨e0, hm, hk0⟩
   exact ⟨j, e1, by simp only [Instr.findNow, ht, Instr.sameNow, hb]; exact h1, by simp [h2], h3⟩
theorem rd_block {w w' : World} {v : Value} {s : List S.Sp} {b : Nat} {es : Array MapEntry} {clock : Nat} (R : S.Rd w v s) (hb : w.heap[b]? = some (.map es clock)) (hg : w.grownBy w' (some b)) : S.Rd w' v s := by
 obtain ⟨vo, vc, rfl, hn, h⟩ := R
 refine ⟨vo, vc, rfl, hn, fun hz => ?_⟩
 obtain ⟨g, off, rfl, hcl⟩ := h hz
 refine ⟨g, off, rfl, fun j x hj => ?_⟩
 have h1 := hcl j x hj
 have hne : g ≠ b := by
  intro e
  subst e
  have := h1.1
  rw [World.cell?] at this
  simp [hb] at this
 constructor
 ·rw [World.cell?_of_block (a := ⟨g, off + j * 2, none⟩) (hg.block g (L.block_lt h1.1) (by simp [hne]))]; exact h1.1
 ·rw [World.cell?_of_block (a := ⟨g, off + j * 2 + 1, none⟩) (hg.block g (L.block_lt h1.2) (by simp [hne]))]; exact h1.2
theorem cls_insert {w : World} {b : Nat} {ents : List (ByteArray × List S.Sp)} (h : T.Cls w b ents) (s : ByteArray) (v : Value) (sp : List S.Sp) (hnew : ∀ x ∈ ents, x.1 ≠ s) (R : S.Rd w v sp) :
  ∃ w', (Instr.mapUpdate 123 (.map (some b)) (.string s) v).run Tryz.prog w = .ok () w' /\ T.Cls w' b (ents ++ [(s, sp)]) /\ w.grownBy w' (some b) := by
 obtain ⟨es, clock, h1, h2, h3⟩ := h
 have hkeys : ∀ e ∈ es.toList, ∃ t, e.key = .string t /\ t ≠ s := by
  intro e he
  obtain ⟨i, hi⟩ := List.getElem?_of_mem he
  have hlt : i < ents.length := by rw [<- h2]; exact (List.getElem?_eq_some_iff.1 hi).1
  have hx := h3 i e ents[i] hi (by simp [hlt])
  exact ⟨_, hx.1, hnew _ (List.getElem_mem _)⟩
 have hf := find_none s es.toList 0 hkeys
 have hlt : b < w.heap.size := (Array.getElem?_eq_some_iff.1 h1).1
 have hg : w.grownBy ({ w with heap := w.heap.setIfInBounds b (.map (es.push { key := .string s, val := v, born := clock }) (clock + 1)) } : World) (some b) := ⟨rfl, rfl, rfl, by simp, fun i _ hi => by
  have hne : b ≠ i := fun e => hi (by rw [e])
  simp [hne]⟩
 refine ⟨({ w with heap := w.heap.setIfInBounds b (.map (es.push { key := .string s, val := v, born := clock }) (clock + 1)) } : World), ?_, ⟨es.push { key := .string s, val := v, born := clock }, clock + 1, ?_, ?_, ?_⟩, hg⟩
 ·simp [Instr.mapUpdate, run_underlying Tryz.underlying123, MapKept.run_getObj_map h1, MapKept.run_checkKey (kt := 9) Tryz.underlying9 (show MapKept.IsKey .string (.string s) from trivial), MapKept.run_findKey (kt := 9) Tryz.underlying9 hf, MapKept.run_setObj_map _ h1, Result.andThen]
 ·simp [hlt]
 ·simp; simpa using h2
 ·intro i e x he hx
  have hl : es.size = ents.length := by simpa using h2
  rw [Array.toList_push] at he
  by_cases hi : i < ents.length
  ·rw [List.getElem?_append_left (by simpa [hl] using hi)] at he
   rw [List.getElem?_append_left hi] at hx
   have := h3 i e x he hx
   exact ⟨this.1, rd_block this.2 h1 hg⟩
  ·have hi2 : i = ents.length := by
    have := (List.getElem?_eq_some_iff.1 hx).1
    simp at this
    omega
   subst hi2
   rw [<- h2] at he
   rw [List.getElem?_append_right (Nat.le_refl _)] at he hx
   simp at he hx
   subst he hx
   exact ⟨rfl, rd_block R h1 hg⟩
theorem cls_lookup {w : World} {b : Nat} {ents : List (ByteArray × List S.Sp)} (h : T.Cls w b ents) (s : ByteArray) :
  (∃ v x, x ∈ ents /\ x.1 = s /\ S.Rd w v x.2 /\ (Instr.lookup 123 (.map (some b)) (.string s) true).run Tryz.prog w = .ok (.tuple #[v, .bool true]) w) ∨
  ((∀ x ∈ ents, x.1 ≠ s) /\ (Instr.lookup 123 (.map (some b)) (.string s) true).run Tryz.prog w = .ok (.tuple #[.slice none 0 0, .bool false]) w) := by
 obtain ⟨es, clock, h1, h2, h3⟩ := h
 have hkey : ∀ e ∈ es.toList, ∃ x ∈ ents, e.key = .string x.1 /\ S.Rd w e.val x.2 := by
  intro e he
  obtain ⟨i, hi⟩ := List.getElem?_of_mem he
  have hlt : i < ents.length := by rw [<- h2]; exact (List.getElem?_eq_some_iff.1 hi).1
  have hx := h3 i e ents[i] hi (by simp [hlt])
  exact ⟨_, List.getElem_mem _, hx.1, hx.2⟩
 by_cases hs : ∃ x ∈ ents, x.1 = s
 ·left
  obtain ⟨x, hx, hxs⟩ := hs
  have hex : ∃ e ∈ es.toList, e.key = .string s := by
   obtain ⟨i, hi⟩ := List.getElem?_of_mem hx
   have hlt : i < es.toList.length := by rw [h2]; exact (List.getElem?_eq_some_iff.1 hi).1
   have := h3 i es.toList[i] x (by simp) hi
   exact ⟨_, List.getElem_mem _, by rw [this.1, hxs]⟩
  obtain ⟨j, e, hf, hm, hk⟩ := find_some s es.toList 0 (fun e he => by obtain ⟨x, _, h, _⟩ := hkey e he; exact ⟨_, h⟩) hex
  obtain ⟨y, hy, hyk, hR⟩ := hkey e hm
  rw [hk] at hyk
  cases hyk
  refine ⟨e.val, y, hy, rfl, hR, ?_⟩
  simp [Instr.lookup, run_underlying Tryz.underlying123, MapKept.run_getObj_map h1, MapKept.run_checkKey (kt := 9) Tryz.underlying9 (show MapKept.IsKey .string (.string y.1) from trivial), MapKept.run_findKey (kt := 9) Tryz.underlying9 hf, Result.andThen]
 ·right
  refine ⟨fun x hx e => hs ⟨x, hx, e⟩, ?_⟩
  have hf := find_none s es.toList 0 fun e he => by
   obtain ⟨x, hx, hk, _⟩ := hkey e he
   exact ⟨x.1, hk, fun e => hs ⟨x, hx, e⟩⟩
  have hz := Tryz.zeroValue23
  simp [Instr.lookup, run_underlying Tryz.underlying123, MapKept.run_getObj_map h1, MapKept.run_checkKey (kt := 9) Tryz.underlying9 (show MapKept.IsKey .string (.string s) from trivial), MapKept.run_findKey (kt := 9) Tryz.underlying9 hf, Result.andThen, hz]
theorem rd_alloc (w : World) (sp : List S.Sp) (C : Array Value) (hC : C = (S.cellsOf sp).toArray) (n : Nat) (hn : n = sp.length) (c : Nat) : S.Rd (w.alloc (.cells C 67)) (.slice (some ⟨w.heap.size, 0, none⟩) n c) sp := by
 subst hC hn
 refine ⟨_, c, rfl, (fun h => by cases h), fun _ => ⟨w.heap.size, 0, rfl, fun j x hj => ?_⟩⟩
 have hg := S.cellsOf_get hj
 rw [World.cell?_alloc_at _ _ _ _ rfl, World.cell?_alloc_at _ _ _ _ rfl]
 simp only [Nat.zero_add]
 exact ⟨by simpa using hg.1, by simpa using hg.2⟩
def T.names : List (ByteArray × List S.Sp) :=
  [(⟨#[100, 105, 103, 105, 116]⟩, [(48, 57)]), (⟨#[108, 111, 119, 101, 114]⟩, [(97, 122), (223, 246), (248, 255)]),
   (⟨#[117, 112, 112, 101, 114]⟩, [(65, 90), (192, 214), (216, 222)]), (⟨#[108, 101, 116, 116, 101, 114]⟩, [(65, 90), (97, 122), (192, 214), (216, 246), (248, 255)]),
   (⟨#[118, 111, 119, 101, 108]⟩, [(65, 65), (69, 69), (73, 73), (79, 79), (85, 85), (97, 97), (101, 101), (105, 105), (111, 111), (117, 117)]),
   (⟨#[103, 114, 101, 101, 107]⟩, [(880, 1023)]), (⟨#[99, 121, 114, 105, 108, 108, 105, 99]⟩, [(1024, 1279)]), (⟨#[115, 112, 97, 99, 101]⟩, [(9, 10), (32, 32)]), (⟨#[97, 110, 121]⟩, [(0, 1114111)])]
theorem cls_start (w : World) : ∃ w1 b, (Instr.makeMap 123 none).run Tryz.prog w = .ok (.map (some b)) w1 /\ T.Cls w1 b [] /\ Hid (w.heap.size <= b /\ Below w.heap.size w w1) :=
  ⟨_, _, run_makeMap _ _, cls_new w, ⟨Nat.le_refl _, (Below.refl _ _).alloc (Nat.le_refl _) _⟩⟩
theorem cls_step {w w1 : World} {b : Nat} {ents : List (ByteArray × List S.Sp)} (hC : T.Cls w1 b ents) (hB : Hid (w.heap.size <= b /\ Below w.heap.size w w1)) (s : ByteArray) (sp : List S.Sp) (C : Array Value) (hCC : C = (S.cellsOf sp).toArray) (n c : Nat) (hn : n = sp.length) (hnew : ∀ x ∈ ents, x.1 ≠ s) :
    ∃ w2, (Instr.mapUpdate 123 (.map (some b)) (.string s) (.slice (some ⟨w1.heap.size, 0, none⟩) n c)).run Tryz.prog (w1.alloc (.cells C 67)) = .ok () w2 /\ T.Cls w2 b (ents ++ [(s, sp)]) /\ Hid (w.heap.size <= b /\ Below w.heap.size w w2) := by
  have b1 : Below w1.heap.size w1 (w1.alloc (.cells C 67)) := (Below.refl _ _).alloc (Nat.le_refl _) _
  obtain ⟨w2, r, h1, h2⟩ := cls_insert (cls_below hC b1) s _ sp hnew (rd_alloc w1 sp C hCC n hn c)
  have hB1 : Below w.heap.size w (w1.alloc (.cells C 67)) := hB.out.2.alloc hB.out.2.size _
  exact ⟨w2, r, h1, hB.out.1, hB1.grown h2 hB1.size (fun j hj => by cases hj; exact hB.out.1)⟩
set_option maxHeartbeats 4000000 in
theorem classes_any (w : World) : Calls Tryz.prog 237 #[] w fun e w' => ∃ b, e = .returned (.map (some b)) /\ w.heap.size <= b /\ T.Cls w' b T.names /\ Below w.heap.size w w' := by
  go_enter Tryz.func237, Tryz.ntmps237
  go_wp2_with fail
  obtain ⟨w1, b, r, hC, hB⟩ := cls_start w
  rw [r]; clear r
  go_wp2_with fail
  obtain ⟨w2, r, hC, hB⟩ := cls_step hC hB ⟨#[100, 105, 103, 105, 116]⟩ [(48, 57)] #[.int .i32 48, .int .i32 57] rfl 1 1 rfl (by decide)
  rw [r]; clear r
  go_wp2_with fail
  obtain ⟨w3, r, hC, hB⟩ := cls_step hC hB ⟨#[108, 111, 119, 101, 114]⟩ [(97, 122), (223, 246), (248, 255)] #[.int .i32 97, .int .i32 122, .int .i32 223, .int .i32 246, .int .i32 248, .int .i32 255] rfl 3 3 rfl (by decide)
  rw [r]; clear r
  go_wp2_with fail
  obtain ⟨w4, r, hC, hB⟩ := cls_step hC hB ⟨#[117, 112, 112, 101, 114]⟩ [(65, 90), (192, 214), (216, 222)] #[.int .i32 65, .int .i32 90, .int .i32 192, .int .i32 214, .int .i32 216, .int .i32 222] rfl 3 3 rfl (by decide)
  rw [r]; clear r
  go_wp2_with fail
  obtain ⟨w5, r, hC, hB⟩ := cls_step hC hB ⟨#[108, 101, 116, 116, 101, 114]⟩ [(65, 90), (97, 122), (192, 214), (216, 246), (248, 255)] #[.int .i32 65, .int .i32 90, .int .i32 97, .int .i32 122, .int .i32 192, .int .i32 214, .int .i32 216, .int .i32 246, .int .i32 248, .int .i32 255] rfl 5 5 rfl (by decide)
  rw [r]; clear r
  go_wp2_with fail
  refine (one_any 65 _).mono ?_
  rintro e w6 ⟨rfl, hb⟩
  replace hC := cls_below hC hb
  replace hB : Hid (w.heap.size <= b /\ Below w.heap.size w w6) := ⟨hB.out.1, hB.out.2.trans (hb.mono hB.out.2.size)⟩
  clear hb
  go_wp2_with fail
  refine (one_any 69 _).mono ?_
  rintro e w7 ⟨rfl, hb⟩
  replace hC := cls_below hC hb
  replace hB : Hid (w.heap.size <= b /\ Below w.heap.size w w7) := ⟨hB.out.1, hB.out.2.trans (hb.mono hB.out.2.size)⟩
  clear hb
  go_wp2_with fail
  refine (one_any 73 _).mono ?_
  rintro e w8 ⟨rfl, hb⟩
  replace hC := cls_below hC hb
  replace hB : Hid (w.heap.size <= b /\ Below w.heap.size w w8) := ⟨hB.out.1, hB.out.2.trans (hb.mono hB.out.2.size)⟩
  clear hb
  go_wp2_with fail
  refine (one_any 79 _).mono ?_
  rintro e w9 ⟨rfl, hb⟩
  replace hC := cls_below hC hb
  replace hB : Hid (w.heap.size <= b /\ Below w.heap.size w w9) := ⟨hB.out.1, hB.out.2.trans (hb.mono hB.out.2.size)⟩
  clear hb
  go_wp2_with fail
  refine (one_any 85 _).mono ?_
  rintro e w10 ⟨rfl, hb⟩
  replace hC := cls_below hC hb
  replace hB : Hid (w.heap.size <= b /\ Below w.heap.size w w10) := ⟨hB.out.1, hB.out.2.trans (hb.mono hB.out.2.size)⟩
  clear hb
  go_wp2_with fail
  refine (one_any 97 _).mono ?_
  rintro e w11 ⟨rfl, hb⟩
  replace hC := cls_below hC hb
  replace hB : Hid (w.heap.size <= b /\ Below w.heap.size w w11) := ⟨hB.out.1, hB.out.2.trans (hb.mono hB.out.2.size)⟩
  clear hb
  go_wp2_with fail
  refine (one_any 101 _).mono ?_
  rintro e w12 ⟨rfl, hb⟩
  replace hC := cls_below hC hb
  replace hB : Hid (w.heap.size <= b /\ Below w.heap.size w w12) := ⟨hB.out.1, hB.out.2.trans (hb.mono hB.out.2.size)⟩
  clear hb
  go_wp2_with fail
  refine (one_any 105 _).mono ?_
  rintro e w13 ⟨rfl, hb⟩
  replace hC := cls_below hC hb
  replace hB : Hid (w.heap.size <= b /\ Below w.heap.size w w13) := ⟨hB.out.1, hB.out.2.trans (hb.mono hB.out.2.size)⟩
  clear hb
  go_wp2_with fail
  refine (one_any 111 _).mono ?_
  rintro e w14 ⟨rfl, hb⟩
  replace hC := cls_below hC hb
  replace hB : Hid (w.heap.size <= b /\ Below w.heap.size w w14) := ⟨hB.out.1, hB.out.2.trans (hb.mono hB.out.2.size)⟩
  clear hb
  go_wp2_with fail
  refine (one_any 117 _).mono ?_
  rintro e w15 ⟨rfl, hb⟩
  replace hC := cls_below hC hb
  replace hB : Hid (w.heap.size <= b /\ Below w.heap.size w w15) := ⟨hB.out.1, hB.out.2.trans (hb.mono hB.out.2.size)⟩
  clear hb
  go_wp2_with fail
  obtain ⟨w16, r, hC, hB⟩ := cls_step hC hB ⟨#[118, 111, 119, 101, 108]⟩ [(65, 65), (69, 69), (73, 73), (79, 79), (85, 85), (97, 97), (101, 101), (105, 105), (111, 111), (117, 117)] #[.int .i32 65, .int .i32 65, .int .i32 69, .int .i32 69, .int .i32 73, .int .i32 73, .int .i32 79, .int .i32 79, .int .i32 85, .int .i32 85, .int .i32 97, .int .i32 97, .int .i32 101, .int .i32 101, .int .i32 105, .int .i32 105, .int .i32 111, .int .i32 111, .int .i32 117, .int .i32 117] rfl 10 10 rfl (by decide)
  rw [r]; clear r
  go_wp2_with fail
  obtain ⟨w17, r, hC, hB⟩ := cls_step hC hB ⟨#[103, 114, 101, 101, 107]⟩ [(880, 1023)] #[.int .i32 880, .int .i32 1023] rfl 1 1 rfl (by decide)
  rw [r]; clear r
  go_wp2_with fail
  obtain ⟨w18, r, hC, hB⟩ := cls_step hC hB ⟨#[99, 121, 114, 105, 108, 108, 105, 99]⟩ [(1024, 1279)] #[.int .i32 1024, .int .i32 1279] rfl 1 1 rfl (by decide)
  rw [r]; clear r
  go_wp2_with fail
  refine (one_any 32 _).mono ?_
  rintro e w19 ⟨rfl, hb⟩
  replace hC := cls_below hC hb
  replace hB : Hid (w.heap.size <= b /\ Below w.heap.size w w19) := ⟨hB.out.1, hB.out.2.trans (hb.mono hB.out.2.size)⟩
  clear hb
  go_wp2_with fail
  obtain ⟨w20, r, hC, hB⟩ := cls_step hC hB ⟨#[115, 112, 97, 99, 101]⟩ [(9, 10), (32, 32)] #[.int .i32 9, .int .i32 10, .int .i32 32, .int .i32 32] rfl 2 2 rfl (by decide)
  rw [r]; clear r
  go_wp2_with fail
  obtain ⟨w21, r, hC, hB⟩ := cls_step hC hB ⟨#[97, 110, 121]⟩ [(0, 1114111)] #[.int .i32 0, .int .i32 1114111] rfl 1 1 rfl (by decide)
  rw [r]; clear r
  go_wp2_with fail
  go_ret
  exact ⟨b, rfl, hB.out.1, hC, hB.out.2⟩
end Go.Proofs.YtmlnanbpbbpekaaGreatDoor
