/-
  words.played; what Each's two ways share.
-/
import Derived.Test.YtddiojckgjobmaaGreatWdTitle
import Derived.Test.YtddiojckgjobmaaGreatCnGo
import Derived.Deep.DeepCutAuto
namespace Go.Proofs.YtddiojckgjobmaaGreat
open Go.RowKit Go.Lib
set_option maxRecDepth 20000
set_option linter.unusedSimpArgs false
set_option linter.unusedVariables false

namespace Wd
/-- what is made of a word's piece -/
def res (pl : Cn.Pl) (s : V.Script) (b : Bool) (S : List Int) : List Int × Int × Int := if b = false then (S, 0, 0) else Cn.goF pl s S
theorem each_cons (pl : Cn.Pl) (s : V.Script) (t : List Int) (x : Wo) (l : List Wo) (acc : List Int) : each pl s t (x :: l) acc = if (res pl s x.2.2 (seg t x)).2.1 = 0 then each pl s t l (acc ++ (res pl s x.2.2 (seg t x)).1) else ([], (res pl s x.2.2 (seg t x)).2) := by
  rw [each]
  unfold res
  cases h : x.2.2 with
  | false => simp
  | true => simp
theorem res_len {pl : Cn.Pl} {s : V.Script} {b : Bool} {S : List Int} (h : S.length ≤ 4000) : (res pl s b S).1.length ≤ 4000 := by
  unfold res
  split
  · exact h
  · exact goF_len pl s S
/-- a world behind Z in which a script's box and a word's are as they were -/
abbrev At7 (Z X : World) (sb kb : Nat) (v0 v1 v2 u0 u1 u2 : Value) : Prop :=
  Below Z.heap.size Z X ∧ X.cell? ⟨sb, 0, none⟩ = some v0 ∧ X.cell? ⟨sb, 1, none⟩ = some v1 ∧ X.cell? ⟨sb, 2, none⟩ = some v2 ∧ X.cell? ⟨kb, 0, none⟩ = some u0 ∧ X.cell? ⟨kb, 1, none⟩ = some u1 ∧ X.cell? ⟨kb, 2, none⟩ = some u2
theorem At7.below {Z X Y : World} {sb kb : Nat} {v0 v1 v2 u0 u1 u2 : Value} (h : At7 Z X sb kb v0 v1 v2 u0 u1 u2) (hb : Below X.heap.size X Y) : At7 Z Y sb kb v0 v1 v2 u0 u1 u2 := by
  obtain ⟨h0, h1, h2, h3, h4, h5, h6⟩ := h
  exact ⟨h0.trans (hb.mono h0.size), (hb.cell (p := ⟨sb, 0, none⟩) (L.block_lt h1)).trans h1, (hb.cell (p := ⟨sb, 1, none⟩) (L.block_lt h1)).trans h2, (hb.cell (p := ⟨sb, 2, none⟩) (L.block_lt h1)).trans h3, (hb.cell (p := ⟨kb, 0, none⟩) (L.block_lt h4)).trans h4, (hb.cell (p := ⟨kb, 1, none⟩) (L.block_lt h4)).trans h5, (hb.cell (p := ⟨kb, 2, none⟩) (L.block_lt h4)).trans h6⟩
theorem At7.alloc {Z X : World} {sb kb : Nat} {v0 v1 v2 u0 u1 u2 : Value} (h : At7 Z X sb kb v0 v1 v2 u0 u1 u2) (o : Obj) : At7 Z (X.alloc o) sb kb v0 v1 v2 u0 u1 u2 := h.below (Cn.al X o)
theorem At7.drew {Z X : World} {sb kb : Nat} {v0 v1 v2 u0 u1 u2 : Value} (h : At7 Z X sb kb v0 v1 v2 u0 u1 u2) : At7 Z X.drew sb kb v0 v1 v2 u0 u1 u2 := h.below (Below.refl _ X).drew
theorem At7.set2 {Z X : World} {sb kb fb : Nat} {v0 v1 v2 u0 u1 u2 : Value} (h : At7 Z X sb kb v0 v1 v2 u0 u1 u2) (hs : sb < Z.heap.size) (hk : kb < Z.heap.size) (hb : Z.heap.size ≤ fb) (a b : Value) : At7 Z ((X.setCell ⟨fb, 0, none⟩ a).setCell ⟨fb, 1, none⟩ b) sb kb v0 v1 v2 u0 u1 u2 := by
  obtain ⟨h0, h1, h2, h3, h4, h5, h6⟩ := h
  have c : ∀ g i, g < Z.heap.size → ((X.setCell ⟨fb, 0, none⟩ a).setCell ⟨fb, 1, none⟩ b).cell? ⟨g, i, none⟩ = X.cell? ⟨g, i, none⟩ := fun g i hg => World.cell?_of_block (a := ⟨g, i, none⟩) (by
    rw [heap_setCell_other _ ⟨fb, 1, none⟩ g _ (by simp; omega), heap_setCell_other _ ⟨fb, 0, none⟩ g _ (by simp; omega)])
  exact ⟨(h0.setCell (p := ⟨fb, 0, none⟩) hb _).setCell (p := ⟨fb, 1, none⟩) hb _, by rw [c _ _ hs]; exact h1, by rw [c _ _ hs]; exact h2, by rw [c _ _ hs]; exact h3, by rw [c _ _ hk]; exact h4, by rw [c _ _ hk]; exact h5, by rw [c _ _ hk]; exact h6⟩
/-- what came, and the box of its fault -/
def Got (W wx : World) (v8 v9 : Value) (q : List Int × Int × Int) : Prop :=
  ∃ fb, v9 = .pointer (some ⟨fb, 0, none⟩) ∧ W.heap.size ≤ fb ∧ wx.heap[fb]? = some (.cells #[.int .i64 q.2.1, .int .i64 q.2.2] 37) ∧ L.Rd wx v8 .i32 q.1 ∧ Below W.heap.size W wx
theorem zkq {Z X : World} {sb kb : Nat} {v0 v1 v2 u0 u1 u2 v8 : Value} {q : List Int} {r1 r2 : Int} (h : At7 Z X sb kb v0 v1 v2 u0 u1 u2) (hr : L.Rd X v8 .i32 q) : Got Z (X.alloc (.cells #[.int .i64 r1, .int .i64 r2] 37)) v8 (.pointer (some ⟨X.heap.size, 0, none⟩)) (q, r1, r2) :=
  ⟨_, rfl, h.1.size, heap_alloc_new X _, hr.below (Cn.al _ _) (Nat.le_refl _), (h.alloc _).1⟩
theorem zkp {Z X : World} {sb kb fb : Nat} {v0 v1 v2 u0 u1 u2 v8 : Value} {q : List Int} {r1 r2 : Int} (h : At7 Z X sb kb v0 v1 v2 u0 u1 u2) (hs : sb < Z.heap.size) (hk : kb < Z.heap.size) (hr : L.Rd X v8 .i32 q) (hb : X.heap[fb]? = some (.cells #[.int .i64 0, .int .i64 0] 37)) (hfb : Z.heap.size ≤ fb) : Got Z ((X.setCell ⟨fb, 0, none⟩ (.int .i64 r1)).setCell ⟨fb, 1, none⟩ (.int .i64 r2)) v8 (.pointer (some ⟨fb, 0, none⟩)) (q, r1, r2) := by
  have hb1 := heap_setCell_same X fb 0 _ _ (.int .i64 r1) hb
  have hb2 := heap_setCell_same _ fb 1 _ _ (.int .i64 r2) hb1
  refine ⟨fb, rfl, hfb, hb2, K.zaz hr fun hz k hk => ?_, (h.set2 hs hk hfb _ _).1⟩
  have hne := K.zjn hr hb hz k hk
  rw [heap_setCell_other _ ⟨fb, 1, none⟩ k _ hne, heap_setCell_other _ ⟨fb, 0, none⟩ k _ hne]
end Wd

set_option maxHeartbeats 4000000 in
theorem played_any (pl : Cn.Pl) (hpl : Cn.PlOk pl) (w : World) (a b : Int) (bb : Bool) (vs : Value) (s : V.Script) (h0 : V.ScIs w vs s) (hfit : S.Fit s.only) (po : Option Addr) (pc : Nat) (S : List Int) (Rs : L.Rd w (.slice po S.length pc) .i32 S) (hcap : S.length ≤ pc) (hS : S.length ≤ 4000) :
    Calls Tryz.prog 22 #[.agg #[.int .i64 a, .int .i64 b, .bool bb], vs, .slice po S.length pc] w fun e w' => ∃ v', e = .returned (.tuple #[v', .agg #[.int .i64 (Wd.res pl s bb S).2.1, .int .i64 (Wd.res pl s bb S).2.2]]) ∧ L.Rd w' v' .i32 (Wd.res pl s bb S).1 ∧ Below w.heap.size w w' := by
  obtain ⟨oo, oc, po', pc', rfl, _⟩ := id h0
  obtain ⟨Z, hZ⟩ : ∃ Z, Z = ((w.alloc (.cells #[.int .i64 a, .int .i64 b, .bool bb] 32)).alloc (.cells #[.bool s.has, .slice oo s.only.length oc, .slice po' s.passes.length pc'] 25)).alloc (.cells #[.int .i64 0, .int .i64 0] 37) := ⟨_, rfl⟩
  have hz0 : Z.heap[w.heap.size]? = some (.cells #[.int .i64 a, .int .i64 b, .bool bb] 32) ∧ Z.heap[w.heap.size + 1]? = some (.cells #[.bool s.has, .slice oo s.only.length oc, .slice po' s.passes.length pc'] 25) ∧ Z.heap[w.heap.size + 1 + 1]? = some (.cells #[.int .i64 0, .int .i64 0] 37) ∧ Below w.heap.size w Z := by
    have k := K.za9 (w := w) (o1 := .cells #[.int .i64 a, .int .i64 b, .bool bb] 32) (o2 := .cells #[.bool s.has, .slice oo s.only.length oc, .slice po' s.passes.length pc'] 25) (Below.refl _ _)
    have e := heap_alloc_new ((w.alloc (.cells #[.int .i64 a, .int .i64 b, .bool bb] 32)).alloc (.cells #[.bool s.has, .slice oo s.only.length oc, .slice po' s.passes.length pc'] 25)) (.cells #[.int .i64 0, .int .i64 0] 37)
    have e2 : ((w.alloc (.cells #[.int .i64 a, .int .i64 b, .bool bb] 32)).alloc (.cells #[.bool s.has, .slice oo s.only.length oc, .slice po' s.passes.length pc'] 25)).heap.size = w.heap.size + 1 + 1 := by simp
    rw [e2] at e
    rw [hZ]
    refine ⟨K.zab k.1 (Cn.al _ _), K.zab k.2.1 (Cn.al _ _), e, k.2.2.1.trans ((Cn.al _ _).mono k.2.2.1.size)⟩
  obtain ⟨z1, z2, z3, zb⟩ := hz0
  have c2 := K.zaa (i := 2) z1 rfl
  have s0 := K.zaa (i := 0) z2 rfl
  have s1 := K.zaa (i := 1) z2 rfl
  have s2 := K.zaa (i := 2) z2 rfl
  have HZ3 : Hid (Z.heap[w.heap.size + 1 + 1]? = some (.cells #[.int .i64 0, .int .i64 0] 37) ∧ Below w.heap.size w Z ∧ L.Rd Z (.slice po S.length pc) .i32 S) := ⟨z3, zb, Rs.below zb (Nat.le_refl _)⟩
  have HGo : Hid (Calls Tryz.prog 32 #[.agg #[.bool s.has, .slice oo s.only.length oc, .slice po' s.passes.length pc'], .slice po S.length pc] Z fun e w' => ∃ v', e = .returned (.tuple #[v', .agg #[.int .i64 (Cn.goF pl s S).2.1, .int .i64 (Cn.goF pl s S).2.2]]) ∧ L.Rd w' v' .i32 (Cn.goF pl s S).1 ∧ Below Z.heap.size Z w') := zli pl hpl Z _ s (h0.below zb) hfit po pc S (Rs.below zb (Nat.le_refl _)) hcap (by omega)
  obtain ⟨x0, x1, f0, f1⟩ := K.box2 z3
  clear z1 z2 z3 zb h0 Rs hfit hcap
  cases bb with
  | false =>
    have hr : Wd.res pl s false S = (S, 0, 0) := rfl
    rw [hr]
    clear HGo hr
    go_enter Tryz.func22, Tryz.ntmps22
    go_upto_region 1 with fail
    rw [← hZ]
    clear hZ
    go_wp2
    refine bodyPost_ret (v := .tuple #[.slice po S.length pc, .agg #[.int .i64 0, .int .i64 0]]) (by simp [results, Tryz.results22, go_sem, *]) rfl ?_
    refine ⟨_, rfl, K.zaz HZ3.out.2.2 fun hz k hk => ?_, (HZ3.out.2.1.setCell (p := ⟨w.heap.size + 1 + 1, 0, none⟩) (by simp; omega) _).setCell (p := ⟨w.heap.size + 1 + 1, 1, none⟩) (by simp; omega) _⟩
    have hne := K.zjn HZ3.out.2.2 HZ3.out.1 hz k hk
    rw [heap_setCell_other _ ⟨w.heap.size + 1 + 1, 1, none⟩ k _ (by simpa using hne), heap_setCell_other _ ⟨w.heap.size + 1 + 1, 0, none⟩ k _ (by simpa using hne)]
  | true =>
    have hr : Wd.res pl s true S = Cn.goF pl s S := rfl
    rw [hr]
    clear hr
    obtain ⟨⟨g, g1, g2⟩, hg⟩ : ∃ o, Cn.goF pl s S = o := ⟨_, rfl⟩
    rw [hg] at HGo ⊢
    simp only at HGo ⊢
    clear hg
    go_enter Tryz.func22, Tryz.ntmps22
    go_wp2_with fail
    rw [← hZ]
    clear hZ
    refine HGo.out.mono ?_
    clear HGo
    rintro e w1 ⟨v1, rfl, d1, b1⟩
    have hb1 := K.zab HZ3.out.1 b1
    obtain ⟨va1, vc1, rfl⟩ : ∃ va vc, v1 = .slice va g.length vc := by obtain ⟨a, c, h, _⟩ := d1; exact ⟨a, c, h⟩
    have HM : Hid (w1.heap[w.heap.size + 1 + 1]? = some (.cells #[.int .i64 0, .int .i64 0] 37) ∧ Below w.heap.size w w1 ∧ L.Rd w1 (.slice va1 g.length vc1) .i32 g) := ⟨hb1, HZ3.out.2.1.trans (b1.mono HZ3.out.2.1.size), d1⟩
    clear x0 x1 f0 f1 c2 s0 s1 s2 b1 d1 HZ3
    obtain ⟨x0, x1, f0, f1⟩ := K.box2 hb1
    clear hb1
    go_wp2
    refine bodyPost_ret (v := .tuple #[.slice va1 g.length vc1, .agg #[.int .i64 g1, .int .i64 g2]]) (by simp [results, Tryz.results22, go_sem, *]) rfl ?_
    refine ⟨_, rfl, K.zaz HM.out.2.2 fun hz k hk => ?_, (HM.out.2.1.setCell (p := ⟨w.heap.size + 1 + 1, 0, none⟩) (by simp; omega) _).setCell (p := ⟨w.heap.size + 1 + 1, 1, none⟩) (by simp; omega) _⟩
    have hne := K.zjn HM.out.2.2 HM.out.1 hz k hk
    rw [heap_setCell_other _ ⟨w.heap.size + 1 + 1, 1, none⟩ k _ (by simpa using hne), heap_setCell_other _ ⟨w.heap.size + 1 + 1, 0, none⟩ k _ (by simpa using hne)]

end Go.Proofs.YtddiojckgjobmaaGreat
