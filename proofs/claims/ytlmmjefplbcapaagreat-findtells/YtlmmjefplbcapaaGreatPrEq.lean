/-
  Rows of structs that are being made, as long as they may be: one more. Rows of links, and a part of one.
-/
import Derived.Test.YtlmmjefplbcapaaGreatFdP
import Derived.Test.YtlmmjefplbcapaaGreatKRow
import Derived.Test.YtlmmjefplbcapaaGreatRows
import Derived.Test.YtlmmjefplbcapaaGreatKI32
import Derived.Deep.QuietTactic
import Derived.BigQuiet
namespace Go.Proofs.YtlmmjefplbcapaaGreat
open Go.RowKit Go.Shelf
set_option maxRecDepth 20000
set_option linter.unusedSimpArgs false
set_option linter.unusedVariables false

theorem Tryz.infoHit : (Tryz.prog.info? 31).map (fun i => (i.zero, i.size, i.bytes)) = some (some (.agg #[.int .i64 0, .int .i64 0]), 2, 16) := by kernel_rfl
namespace Fd
theorem app {w : World} {B n : Nat} {vo : Value} {xs : List Value} (own : w.ownsRow B 31 2 vo n xs) (hB : B ≤ w.heap.size) (hl : n ≤ 1099511627776) (news : List Value) (hn : news.length = 2) (h1 : ∀ u ∈ news, u.oneCell' = true) :
    ∃ ao' vc' w', (∀ ty, (Builtin.append_ #[24, 24] ty #[vo, .slice (some ⟨w.heap.size, 0, none⟩) 1 1]).run Tryz.prog (w.alloc (.cells news.toArray 31)) = .ok (.slice ao' (n + 1) vc') w') ∧ w'.ownsRow B 31 2 (.slice ao' (n + 1) vc') (n + 1) (xs ++ news) ∧ Below B w w' ∧ ∀ (b : Nat) (cs : Array Value), w.heap[b]? = some (Obj.cells cs 44) → w'.heap[b]? = some (Obj.cells cs 44) := by
  have hal : Below w.heap.size w (w.alloc (.cells news.toArray 31)) := (Below.refl _ w).alloc (Nat.le_refl _) _
  have hnew := heap_alloc_new w (.cells news.toArray 31)
  obtain ⟨i0, hi, hz0, hz1, hz2⟩ := info_parts Tryz.infoHit
  have hcells : ∀ j u, news[j]? = some u → (w.alloc (.cells news.toArray 31)).cell? ((⟨w.heap.size, 0, none⟩ : Addr).add j) = some u := fun j u hj => by
    rw [L.addr_add, Nat.zero_add]
    exact K.at_box hnew (by simpa using hj)
  obtain ⟨v', w', run, own', gr, _⟩ := run_append_own (P := Tryz.prog) (w.alloc (.cells news.toArray 31)) B 24 24 31 i0 _ 2 16 Tryz.underlying24 hi hz0 hz1 hz2 rfl (by decide) vo n xs (own.alloc _) ⟨w.heap.size, 0, none⟩ 1 1 news (by rw [hn]) hcells h1 (by unfold maxLen; omega) (by omega) (by simp; omega)
  obtain ⟨ao', vc', rfl⟩ : ∃ ao cap, v' = .slice ao (n + 1) cap := by
    rcases own'.2 with ⟨hv, h0⟩ | ⟨g, cap, cur, hv, _⟩
    · omega
    · exact ⟨_, cap, hv⟩
  refine ⟨ao', vc', w', fun ty => run, own', (hal.mono hB).grown gr (by simp; omega) fun k hk => (own.lt k hk).1, fun b cs hb => ?_⟩
  have hlt := lt_of_block hb
  rw [gr.block b (by simp; omega) fun e => ?_, hal.block b hlt]
  · exact hb
  · obtain ⟨_, cs', q, h⟩ := Al.block own (q := b) e.symm
    rw [hb] at h
    simp at h
theorem from_at (xo : Option Addr) (g N xc i : Nat) (hx : xo = some ⟨g, 0, none⟩) (h : i < N) (hc : N ≤ xc) (w' : World) : (Instr.slice 33 (.slice xo N xc) (some (.int .i64 (i : Int))) none none).run Tryz.prog w' = .ok (.slice (some ⟨g, i * 5, none⟩) (N - i) (xc - i)) w' := by
  subst hx
  have a1 : (i : Int) ≤ N := by omega
  have a2 : (N : Int) ≤ xc := by omega
  have a0 : (0 : Int) ≤ i := by omega
  have a3 : ¬ xc = i := by omega
  go_simp
theorem hits_le {C p : List Int} {X : List Al.Lk} {k : Nat} (hX : X.length ≤ 32040) (hk : k ≤ X.length) : ((X.take k).flatMap (hit C p X)).length ≤ 1026561600 := by
  have h1 := hits_len (C := C) (p := p) (X := X) k
  have h2 : k * X.length ≤ 32040 * 32040 := Nat.mul_le_mul (by omega) hX
  omega
end Fd
end Go.Proofs.YtlmmjefplbcapaaGreat

/-
  What scriptref1.Same answers of two slices of runes: whether they read as the same list.
-/
namespace Go.Proofs.YtlmmjefplbcapaaGreat
open Go.RowKit

theorem take_eq_snoc {a b : List Int} {k : Nat} {x y : Int} (h : a.take k = b.take k) (hx : a[k]? = some x) (hy : b[k]? = some y) (e : x = y) : a.take (k + 1) = b.take (k + 1) := by
  rw [List.take_add_one, List.take_add_one, h, hx, hy, e]

set_option maxHeartbeats 400000 in
theorem rsame_any (w : World) (va vb : Value) (za zb : List Int) (ha : L.Rd w va .i32 za) (hb : L.Rd w vb .i32 zb) (hla : za.length ≤ 4611686018427387903) (hlb : zb.length ≤ 4611686018427387903) :
    Calls Tryz.prog 13 #[va, vb] w fun e w' => e = .returned (.bool (decide (za = zb))) ∧ Below w.heap.size w w' := by
  obtain ⟨ao, ca, rfl, _, ha⟩ := ha
  obtain ⟨bo, cb, rfl, _, hb⟩ := hb
  by_cases hl : za.length = zb.length
  · go_enter Tryz.func13, Tryz.ntmps13
    go_wp2
    go_loopw [13] (fun i wr => ∃ k n : Nat, k ≤ za.length ∧ i = .int .i64 k ∧ za.take k = zb.take k ∧ wr = w.drewN n) (fun i _ => za.length - (intOf i).toNat)
    case atStart => exact ⟨0, 0, Nat.zero_le _, rfl, by simp, rfl⟩
    case round =>
      obtain ⟨k, n, hk, rfl, ht, rfl⟩ := hrel
      by_cases hlt : k < za.length
      · obtain ⟨b1, o1, rfl, hc1⟩ := ha (by intro h; subst h; simp at hlt)
        obtain ⟨b2, o2, rfl, hc2⟩ := hb (by intro h; subst h; simp at hl; rw [hl] at hlt; simp at hlt)
        obtain ⟨x, hx⟩ : ∃ x, za[k]? = some x := ⟨za[k], by simp [hlt]⟩
        obtain ⟨y, hy⟩ : ∃ y, zb[k]? = some y := ⟨zb[k]'(by omega), by simp [show k < zb.length by omega]⟩
        have c1 := hc1 k x hx
        have c2 := hc2 k y hy
        clear hc1 hc2 ha hb
        have HX : Hid (za[k]? = some x ∧ zb[k]? = some y ∧ za.take k = zb.take k) := ⟨hx, hy, ht⟩
        clear hx hy ht
        by_cases hxy : x = y
        · go_wp2
          go_quiet (fail)
          go_wp2
          go_roundw
          case rel => exact ⟨k + 1, _, by omega, by go_num, take_eq_snoc HX.out.2.2 HX.out.1 HX.out.2.1 hxy, rfl⟩
          case measure => simp [intOf]; omega
        · go_wp2
          go_quiet (fail)
          go_wp2
          go_ret
          refine ⟨L.ret_bool ?_, below_drewN (below_drewN (Below.refl _ _) _) _⟩
          have : za ≠ zb := by
            intro e
            rw [e] at HX
            have h1 := HX.out.1
            rw [HX.out.2.1] at h1
            exact hxy (Option.some.inj h1).symm
          simp [this]
      · go_wp2
        go_ret
        refine ⟨L.ret_bool ?_, below_drewN (Below.refl _ _) _⟩
        rw [List.take_of_length_le (by omega), List.take_of_length_le (by omega)] at ht
        simp [ht]
  · go_enter Tryz.func13, Tryz.ntmps13
    go_wp2
    go_ret
    refine ⟨L.ret_bool ?_, Below.refl _ _⟩
    have : za ≠ zb := by intro e; exact hl (by rw [e])
    simp [this]

end Go.Proofs.YtlmmjefplbcapaaGreat

/-
  What slices.Equal answers of two slices of runes: whether they read as the same list.
-/
namespace Go.Proofs.YtlmmjefplbcapaaGreat
open Go.RowKit
set_option maxRecDepth 20000
set_option linter.unusedSimpArgs false
set_option linter.unusedVariables false

set_option maxHeartbeats 400000 in
theorem prEqual_drew (w : World) (va vb : Value) (za zb : List Int) (ha : L.Rd w va .i32 za) (hb : L.Rd w vb .i32 zb) (hla : za.length ≤ 4611686018427387903) (hlb : zb.length ≤ 4611686018427387903) :
    Calls Tryz.prog 30 #[va, vb] w fun e w' => e = .returned (.bool (decide (za = zb))) ∧ ∃ n, w' = w.drewN n := by
  obtain ⟨ao, ca, rfl, _, ha⟩ := ha
  obtain ⟨bo, cb, rfl, _, hb⟩ := hb
  by_cases hl : za.length = zb.length
  · go_enter Tryz.func30, Tryz.ntmps30
    go_wp2
    go_loopw [13] (fun i wr => ∃ k n : Nat, k ≤ za.length ∧ i = .int .i64 k ∧ za.take k = zb.take k ∧ wr = w.drewN n) (fun i _ => za.length - (intOf i).toNat)
    case atStart => exact ⟨0, 0, Nat.zero_le _, rfl, by simp, rfl⟩
    case round =>
      obtain ⟨k, n, hk, rfl, ht, rfl⟩ := hrel
      by_cases hlt : k < za.length
      · obtain ⟨b1, o1, rfl, hc1⟩ := ha (by intro h; subst h; simp at hlt)
        obtain ⟨b2, o2, rfl, hc2⟩ := hb (by intro h; subst h; simp at hl; rw [hl] at hlt; simp at hlt)
        obtain ⟨x, hx⟩ : ∃ x, za[k]? = some x := ⟨za[k], by simp [hlt]⟩
        obtain ⟨y, hy⟩ : ∃ y, zb[k]? = some y := ⟨zb[k]'(by omega), by simp [show k < zb.length by omega]⟩
        have c1 := hc1 k x hx
        have c2 := hc2 k y hy
        clear hc1 hc2 ha hb
        have HX : Hid (za[k]? = some x ∧ zb[k]? = some y ∧ za.take k = zb.take k) := ⟨hx, hy, ht⟩
        clear hx hy ht
        by_cases hxy : x = y
        · go_wp2
          go_quiet (fail)
          go_wp2
          go_roundw
          case rel => exact ⟨k + 1, _, by omega, by go_num, take_eq_snoc HX.out.2.2 HX.out.1 HX.out.2.1 hxy, rfl⟩
          case measure => simp [intOf]; omega
        · go_wp2
          go_quiet (fail)
          go_wp2
          go_ret
          refine ⟨L.ret_bool ?_, ⟨_, World.drewN_drewN _ _ _⟩⟩
          have : za ≠ zb := by
            intro e
            rw [e] at HX
            have h1 := HX.out.1
            rw [HX.out.2.1] at h1
            exact hxy (Option.some.inj h1).symm
          simp [this]
      · go_wp2
        go_ret
        refine ⟨L.ret_bool ?_, ⟨_, rfl⟩⟩
        rw [List.take_of_length_le (by omega), List.take_of_length_le (by omega)] at ht
        simp [ht]
  · go_enter Tryz.func30, Tryz.ntmps30
    go_wp2
    go_ret
    refine ⟨L.ret_bool ?_, ⟨0, rfl⟩⟩
    have : za ≠ zb := by intro e; exact hl (by rw [e])
    simp [this]

theorem prEqual_any (w : World) (va vb : Value) (za zb : List Int) (ha : L.Rd w va .i32 za) (hb : L.Rd w vb .i32 zb) (hla : za.length ≤ 4611686018427387903) (hlb : zb.length ≤ 4611686018427387903) :
    Calls Tryz.prog 30 #[va, vb] w fun e w' => e = .returned (.bool (decide (za = zb))) ∧ Below w.heap.size w w' :=
  (prEqual_drew w va vb za zb ha hb hla hlb).mono fun _ _ ⟨h, n, hw⟩ => ⟨h, by rw [hw]; exact below_drewN (Below.refl _ _) _⟩

end Go.Proofs.YtlmmjefplbcapaaGreat
