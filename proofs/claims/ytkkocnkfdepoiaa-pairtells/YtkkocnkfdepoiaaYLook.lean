/-
  What slices.Equal answers of two slices of runes: whether they read as the same list.
-/
import Derived.Test.YtkkocnkfdepoiaaPrRef
import Derived.Test.YtkkocnkfdepoiaaYMath2
import Derived.Test.YtkkocnkfdepoiaaVLib
import Derived.Test.YtkkocnkfdepoiaaYReachR
import Derived.Laws.EntriesVeiled
import Derived.BigRegion
import Derived.RegionTactic
import Derived.Deep.RegionHeld3
namespace Go.Proofs.Ytkkocnkfdepoiaa
open Go.RowKit
set_option maxRecDepth 20000
set_option linter.unusedSimpArgs false
set_option linter.unusedVariables false

set_option maxHeartbeats 400000 in
theorem prEqual_drew (w : World) (va vb : Value) (za zb : List Int) (ha : L.Rd w va .i32 za) (hb : L.Rd w vb .i32 zb) (hla : za.length ≤ 4611686018427387903) (hlb : zb.length ≤ 4611686018427387903) :
    Calls Try.prog 82 #[va, vb] w fun e w' => e = .returned (.bool (decide (za = zb))) ∧ ∃ n, w' = w.drewN n := by
  obtain ⟨ao, ca, rfl, _, ha⟩ := ha
  obtain ⟨bo, cb, rfl, _, hb⟩ := hb
  by_cases hl : za.length = zb.length
  · go_enter Try.func82, Try.ntmps82
    go_wp2
    go_loopw [13] (fun i wr => ∃ k n : Nat, k ≤ za.length ∧ i = .int .i64 k ∧ za.take k = zb.take k ∧ wr = w.drewN n) (fun i _ => za.length - (intOf i).toNat)
    case atStart => exact ⟨0, 0, Nat.zero_le _, rfl, by simp, rfl⟩
    case round =>
      obtain ⟨k, n, hk, rfl, ht, rfl⟩ := hrel
      by_cases hlt : k < za.length
      · obtain ⟨b1, o1, rfl, hc1⟩ := ha (by intro h; subst h; simp at hlt)
        obtain ⟨b2, o2, rfl, hc2⟩ := hb (by intro h; subst h; simp at hl; rw [hl] at hlt; simp at hlt)
        obtain ⟨x, hx⟩ : ∃ x, za[k]? = some x := ⟨za[k], by simp [hlt]⟩
        obtain ⟨y, hy⟩ : ∃ y, zb[k]? = some y := ⟨zb[k]'(by omega), by simp [show k < zb.length by omega]⟩
        have c1 := hc1 k x hx
        have c2 := hc2 k y hy
        clear hc1 hc2 ha hb
        have HX : Hid (za[k]? = some x ∧ zb[k]? = some y ∧ za.take k = zb.take k) := ⟨hx, hy, ht⟩
        clear hx hy ht
        by_cases hxy : x = y
        · go_wp2
          go_quiet (fail)
          go_wp2
          go_roundw
          case rel => exact ⟨k + 1, _, by omega, by go_num, take_eq_snoc HX.out.2.2 HX.out.1 HX.out.2.1 hxy, rfl⟩
          case measure => simp [intOf]; omega
        · go_wp2
          go_quiet (fail)
          go_wp2
          go_ret
          refine ⟨L.ret_bool ?_, ⟨_, World.drewN_drewN _ _ _⟩⟩
          have : za ≠ zb := by
            intro e
            rw [e] at HX
            have h1 := HX.out.1
            rw [HX.out.2.1] at h1
            exact hxy (Option.some.inj h1).symm
          simp [this]
      · go_wp2
        go_ret
        refine ⟨L.ret_bool ?_, ⟨_, rfl⟩⟩
        rw [List.take_of_length_le (by omega), List.take_of_length_le (by omega)] at ht
        simp [ht]
  · go_enter Try.func82, Try.ntmps82
    go_wp2
    go_ret
    refine ⟨L.ret_bool ?_, ⟨0, rfl⟩⟩
    have : za ≠ zb := by intro e; exact hl (by rw [e])
    simp [this]

theorem prEqual_any (w : World) (va vb : Value) (za zb : List Int) (ha : L.Rd w va .i32 za) (hb : L.Rd w vb .i32 zb) (hla : za.length ≤ 4611686018427387903) (hlb : zb.length ≤ 4611686018427387903) :
    Calls Try.prog 82 #[va, vb] w fun e w' => e = .returned (.bool (decide (za = zb))) ∧ Below w.heap.size w w' :=
  (prEqual_drew w va vb za zb ha hb hla hlb).mono fun _ _ ⟨h, n, hw⟩ => ⟨h, by rw [hw]; exact below_drewN (Below.refl _ _) _⟩

end Go.Proofs.Ytkkocnkfdepoiaa

/-
  What a rule asks of a text on one side of the cursor: package analyse's looks, and whether one asks for nothing that another doesn't.
-/
namespace Go.Proofs.Ytkkocnkfdepoiaa
open Go.RowKit
set_option maxRecDepth 20000
set_option linter.unusedSimpArgs false
set_option linter.unusedVariables false

namespace K
/-- a function that tells the k-th set of a list, now and later -/
def Tell (w : World) (f : Nat) (cb : Array Value) (l : List (List S.Sp)) : Prop :=
  ∀ (k : Nat) s W, l[k]? = some s → Below w.heap.size w W → Calls Try.prog f (#[.int .i64 k] ++ cb) W fun e w' => ∃ so sc, e = .returned (.slice so s.length sc) ∧ S.Rd w' (.slice so s.length sc) s ∧ Below W.heap.size W w'
theorem Tell.below {w w' : World} {f : Nat} {cb : Array Value} {l : List (List S.Sp)} (h : Tell w f cb l) (hb : Below w.heap.size w w') : Tell w' f cb l :=
  fun k s W hk hW => h k s W hk (hb.trans (hW.mono hb.size))
theorem three_new (w : World) (o1 o2 o3 : Obj) : (((w.alloc o1).alloc o2).alloc o3).heap[w.heap.size]? = some o1 ∧ (((w.alloc o1).alloc o2).alloc o3).heap[w.heap.size + 1]? = some o2 ∧ (((w.alloc o1).alloc o2).alloc o3).heap[w.heap.size + 1 + 1]? = some o3 ∧ Below w.heap.size w (((w.alloc o1).alloc o2).alloc o3) := by
  have x := two_boxes (Below.refl _ (((w.alloc o1).alloc o2).alloc o3))
  have hs1 : (w.alloc o1).heap.size = w.heap.size + 1 := by simp
  rw [hs1] at x
  have h0 := (x.2.2.1.block w.heap.size (by omega)).trans (heap_alloc_new w o1)
  exact ⟨h0, x.1, x.2.1, ((Below.refl _ w).alloc (Nat.le_refl _) _).trans (x.2.2.1.mono (by omega))⟩
def ruBox (r : Rule) (bo so ao tgo : Option Addr) (bc sc ac tc : Nat) : Obj := .cells #[.bool r.start, .bool r.fin, .slice bo r.before.length bc, .slice so r.source.length sc, .slice ao r.after.length ac, .slice tgo r.target.length tc, .int .i64 r.cursor] 48
end K

set_option maxHeartbeats 1000000 in
theorem backward1_any (w : World) (br bl : Nat) (bo : Option Addr) (bc : Nat) (l : List (List S.Sp)) (R : K.Ss w (.slice bo l.length bc) l) (c2 : w.cell? ⟨br, 2, none⟩ = some (.slice bo l.length bc)) (cl : w.cell? ⟨bl, 0, none⟩ = some (.int .i64 ((l.length : Int) - 1))) :
    K.Tell w 89 #[.pointer (some ⟨br, 0, none⟩), .pointer (some ⟨bl, 0, none⟩)] l.reverse := by
  intro k s W hk hW
  have hkl : k < l.length := by simpa using (List.getElem?_eq_some_iff.1 hk).1
  have hfew := R.few
  rw [List.getElem?_reverse hkl] at hk
  obtain ⟨b, off, so, sc, rfl, hc, hr, _⟩ := (R.below hW).at hk
  rw [← hW.cell (p := ⟨br, 2, none⟩) (L.block_lt c2)] at c2
  rw [← hW.cell (p := ⟨bl, 0, none⟩) (L.block_lt cl)] at cl
  have hn : (l.length : Int) - 1 - k = ((l.length - 1 - k : Nat) : Int) := by omega
  obtain ⟨m, hm⟩ : ∃ m, l.length - 1 - k = m := ⟨_, rfl⟩
  rw [hm] at hc hn
  have hml : m < l.length := by omega
  have HR : Hid (S.Rd W (.slice so s.length sc) s) := hr
  have h1 : -9223372036854775808 ≤ (l.length : Int) - 1 - k := by omega
  have h2 : (l.length : Int) - 1 - k ≤ 9223372036854775807 := by omega
  clear hk R hr hm hW
  show Calls Try.prog 89 #[.int .i64 k, .pointer (some ⟨br, 0, none⟩), .pointer (some ⟨bl, 0, none⟩)] W _
  go_enter Try.func89, Try.ntmps89
  go_wp2
  go_ret
  exact ⟨so, sc, rfl, HR.out, Below.refl _ _⟩

set_option maxHeartbeats 1000000 in
theorem forward1_any (w : World) (br bl : Nat) (so ao : Option Addr) (sc ac : Nat) (l m : List (List S.Sp)) (R : K.Ss w (.slice so l.length sc) l) (R' : K.Ss w (.slice ao m.length ac) m) (c3 : w.cell? ⟨br, 3, none⟩ = some (.slice so l.length sc)) (c4 : w.cell? ⟨br, 4, none⟩ = some (.slice ao m.length ac)) (cl : w.cell? ⟨bl, 0, none⟩ = some (.int .i64 (l.length : Int))) :
    K.Tell w 90 #[.pointer (some ⟨bl, 0, none⟩), .pointer (some ⟨br, 0, none⟩)] (l ++ m) := by
  intro k s W hk hW
  have hkl : k < l.length + m.length := by simpa using (List.getElem?_eq_some_iff.1 hk).1
  have hfew := R.few
  have hfew' := R'.few
  rw [← hW.cell (p := ⟨br, 3, none⟩) (L.block_lt c3)] at c3
  rw [← hW.cell (p := ⟨br, 4, none⟩) (L.block_lt c4)] at c4
  rw [← hW.cell (p := ⟨bl, 0, none⟩) (L.block_lt cl)] at cl
  by_cases hlt : k < l.length
  · rw [List.getElem?_append_left hlt] at hk
    obtain ⟨b, off, so2, sc2, rfl, hc, hr, _⟩ := (R.below hW).at hk
    have HR : Hid (S.Rd W (.slice so2 s.length sc2) s) := hr
    clear hk R R' hr hW c4
    show Calls Try.prog 90 #[.int .i64 k, .pointer (some ⟨bl, 0, none⟩), .pointer (some ⟨br, 0, none⟩)] W _
    go_enter Try.func90, Try.ntmps90
    go_wp2
    go_ret
    exact ⟨so2, sc2, rfl, HR.out, Below.refl _ _⟩
  · rw [List.getElem?_append_right (by omega)] at hk
    obtain ⟨b, off, so2, sc2, rfl, hc, hr, _⟩ := (R'.below hW).at hk
    have HR : Hid (S.Rd W (.slice so2 s.length sc2) s) := hr
    have hn : (k : Int) - l.length = ((k - l.length : Nat) : Int) := by omega
    obtain ⟨q, hq⟩ : ∃ q, k - l.length = q := ⟨_, rfl⟩
    rw [hq] at hc hn
    have hql : q < m.length := by omega
    have h1 : -9223372036854775808 ≤ (k : Int) - l.length := by omega
    have h2 : (k : Int) - l.length ≤ 9223372036854775807 := by omega
    clear hk R R' hr hW c3 hq
    show Calls Try.prog 90 #[.int .i64 k, .pointer (some ⟨bl, 0, none⟩), .pointer (some ⟨br, 0, none⟩)] W _
    go_enter Try.func90, Try.ntmps90
    go_wp2
    go_ret
    exact ⟨so2, sc2, rfl, HR.out, Below.refl _ _⟩

set_option maxHeartbeats 2000000 in
theorem backward_any (w : World) (v : Value) (r : K.Rule) (R : K.RuIs w v r) :
    Calls Try.prog 77 #[v] w fun e w' => ∃ f cb, e = .returned (.agg #[.int .i64 r.before.length, .bool r.start, .func (.func f) #[] cb]) ∧ (∀ args w, (callFunc f args).run Try.prog w = .ok (.enter f args) w) ∧ K.Tell w' f cb r.before.reverse ∧ Below w.heap.size w w' := by
  have hmf : ∀ (fn : Fn) (first cap : Array Value) (w : World), (Instr.makeFunc fn first cap).run Try.prog w = .ok (.func fn first cap) w := fun _ _ _ _ => rfl
  obtain ⟨bo, bc, so, sc, ao, ac, tgo, tc, rfl, h1, h2, h3, h4, h5⟩ := R
  have HS : Hid (K.Ss w (.slice bo r.before.length bc) r.before) := h1
  have hfew := h1.few
  clear h1 h2 h3 h4 h5
  obtain ⟨st, fi, be, sou, af, ta, cu⟩ := r
  simp only at HS hfew ⊢
  have e1 : -9223372036854775808 ≤ (be.length : Int) - 1 := by omega
  have e2 : (be.length : Int) - 1 ≤ 9223372036854775807 := by omega
  go_enter Try.func77, Try.ntmps77
  go_wp2
  have hx := K.three_new w (.cells #[.bool st, .bool fi, .slice bo be.length bc, .slice so sou.length sc, .slice ao af.length ac, .slice tgo ta.length tc, .int .i64 cu] 48) (.cells #[.int .i64 be.length, .bool st, .func (.func 89) #[] #[.pointer (some ⟨w.heap.size, 0, none⟩), .pointer (some ⟨w.heap.size + 1 + 1, 0, none⟩)]] 105) (.cells #[.int .i64 ((be.length : Int) - 1)] 3)
  refine bodyPost_ret (v := .agg #[.int .i64 be.length, .bool st, .func (.func 89) #[] #[.pointer (some ⟨w.heap.size, 0, none⟩), .pointer (some ⟨w.heap.size + 1 + 1, 0, none⟩)]]) (by simp [results, Try.results77, go_sem, *]) rfl ?_
  exact ⟨89, _, rfl, enters_of Try.func89 (by kernel_rfl) rfl, backward1_any _ _ _ bo bc be (HS.out.below hx.2.2.2) (K.at_box (i := 2) hx.1 rfl) (K.at_box (i := 0) hx.2.2.1 rfl), hx.2.2.2⟩

set_option maxHeartbeats 2000000 in
theorem forward_any (w : World) (v : Value) (r : K.Rule) (R : K.RuIs w v r) :
    Calls Try.prog 78 #[v] w fun e w' => ∃ f cb, e = .returned (.agg #[.int .i64 ((r.source.length : Int) + r.after.length), .bool r.fin, .func (.func f) #[] cb]) ∧ (∀ args w, (callFunc f args).run Try.prog w = .ok (.enter f args) w) ∧ K.Tell w' f cb (r.source ++ r.after) ∧ Below w.heap.size w w' := by
  have hmf : ∀ (fn : Fn) (first cap : Array Value) (w : World), (Instr.makeFunc fn first cap).run Try.prog w = .ok (.func fn first cap) w := fun _ _ _ _ => rfl
  obtain ⟨bo, bc, so, sc, ao, ac, tgo, tc, rfl, h1, h2, h3, h4, h5⟩ := R
  have HS : Hid (K.Ss w (.slice so r.source.length sc) r.source) := h2
  have HA : Hid (K.Ss w (.slice ao r.after.length ac) r.after) := h3
  have hfew := h2.few
  have hfew' := h3.few
  clear h1 h2 h3 h4 h5
  obtain ⟨st, fi, be, sou, af, ta, cu⟩ := r
  simp only at HS HA hfew hfew' ⊢
  have e1 : -9223372036854775808 ≤ (sou.length : Int) + af.length := by omega
  have e2 : (sou.length : Int) + af.length ≤ 9223372036854775807 := by omega
  go_enter Try.func78, Try.ntmps78
  go_wp2
  have hx := K.three_new w (.cells #[.bool st, .bool fi, .slice bo be.length bc, .slice so sou.length sc, .slice ao af.length ac, .slice tgo ta.length tc, .int .i64 cu] 48) (.cells #[.int .i64 ((sou.length : Int) + af.length), .bool fi, .func (.func 90) #[] #[.pointer (some ⟨w.heap.size + 1 + 1, 0, none⟩), .pointer (some ⟨w.heap.size, 0, none⟩)]] 105) (.cells #[.int .i64 (sou.length : Int)] 3)
  refine bodyPost_ret (v := .agg #[.int .i64 ((sou.length : Int) + af.length), .bool fi, .func (.func 90) #[] #[.pointer (some ⟨w.heap.size + 1 + 1, 0, none⟩), .pointer (some ⟨w.heap.size, 0, none⟩)]]) (by simp [results, Try.results78, go_sem, *]) rfl ?_
  exact ⟨90, _, rfl, enters_of Try.func90 (by kernel_rfl) rfl, forward1_any _ _ _ so ao sc ac sou af (HS.out.below hx.2.2.2) (HA.out.below hx.2.2.2) (K.at_box (i := 3) hx.1 rfl) (K.at_box (i := 4) hx.1 rfl) (K.at_box (i := 0) hx.2.2.1 rfl), hx.2.2.2⟩

end Go.Proofs.Ytkkocnkfdepoiaa
