/-
  The rules that begin with a rune: the document's answer.
-/
import Derived.Test.YtlmmjefplbcapaaGreatGMath
import Derived.Test.YtlmmjefplbcapaaGreatQCheckR
import Derived.Test.YtlmmjefplbcapaaGreatQFrame
import Derived.Test.YtlmmjefplbcapaaGreatSHas7
import Derived.Deep.QuietTactic
import Derived.BigQuiet
import Derived.Test.YtlmmjefplbcapaaGreatJRefM
import Derived.Deep.AppendLies
import Derived.RegionTactic
import Derived.Deep.RegionLaw
namespace Go.Proofs.YtlmmjefplbcapaaGreat
open Go.RowKit Go.Shelf
set_option maxRecDepth 20000
set_option linter.unusedSimpArgs false
set_option linter.unusedVariables false

set_option maxHeartbeats 4000000 in
theorem rBegin_any (w : World) (v : Value) (l : List K.Rule) (R0 : V.Rus w v l) (hl : l.length ≤ 200) (hE : ∀ r ∈ l, K.ruleE r = 0) (q : Int) :
    Calls Tryz.prog 33 #[v, .int .i32 q] w fun e w' => ∃ v', e = .returned v' ∧ w'.ownsRow w.heap.size 3 1 v' (J.begins l q).length ((J.begins l q).map (Value.int .i64)) ∧ Below w.heap.size w w' := by
  have HR : Hid (V.Rus w v l) := R0
  have HE : Hid (∀ r ∈ l, K.ruleE r = 0) := hE
  obtain ⟨i0, hi, hz0, hz1, hz2⟩ := info_parts Tryz.infoIntJ
  obtain ⟨ao, cap, rfl⟩ := R0.len
  obtain ⟨P, hP⟩ : ∃ P : K.Rule → Bool, P = fun r => S.memb (K.headS r) q := ⟨_, rfl⟩
  have HPq : Hid (∀ r, P r = S.memb (K.headS r) q) := fun r => by rw [hP]
  have hbg : J.begins l q = J.which P 0 l := by rw [hP]; rfl
  rw [hbg]
  clear R0 hE hP hbg
  go_enter Tryz.func33, Tryz.ntmps33
  go_wp2_with fail
  go_loopw [5, 9] (fun vo i wr => ∃ k : Nat, k ≤ l.length ∧ i = .int .i64 k ∧ Hid (wr.ownsRow w.heap.size 3 1 vo (J.which P 0 (l.take k)).length ((J.which P 0 (l.take k)).map (Value.int .i64)) ∧ Below w.heap.size w wr)) (fun _ i _ => l.length - (RowKit.intOf i).toNat)
  case atStart => exact ⟨0, Nat.zero_le _, rfl, World.ownsRow_nil _ _ _ _, Below.refl _ _⟩
  case round =>
    obtain ⟨k, hk, rfl, HO⟩ := hrel
    have hwr := HO.out.2.size
    by_cases hlt : k < l.length
    · obtain ⟨p, hp⟩ : ∃ x, l[k]? = some x := ⟨l[k], by simp [hlt]⟩
      obtain ⟨ba, oa, bo, bc, so, sc, ao2, ac, tt, tc, rfl, a0, a1, a2, a3, a4, a5, a6, hP⟩ := K.Rus.rule (HR.out.below HO.out.2) hp
      have HT : Hid (J.which P 0 (l.take (k + 1)) = J.which P 0 (l.take k) ++ (if P p then [(k : Int)] else [])) := J.which_take hp
      have hep := HE.out p (List.mem_of_getElem? hp)
      have hsp := (K.ruleE_zero hep).2.2.2.1
      obtain ⟨s, hs⟩ : ∃ s, p.source[0]? = some s := ⟨p.source[0], by simp⟩
      have hhd := K.head_at hs
      have hok := K.head_ok hep
      rw [hhd] at hok
      obtain ⟨bo', bc', so', sc', ao', ac', tt', tc', hv, _, hS, _⟩ := hP
      have hv2 := Value.agg.inj hv
      simp only [Array.mk.injEq, List.cons.injEq, Value.slice.injEq, true_and, and_true] at hv2
      obtain ⟨⟨rfl, rfl⟩, ⟨rfl, rfl⟩, ⟨rfl, rfl⟩, rfl, rfl⟩ := hv2
      obtain ⟨gb, go, s2, c2, rfl, hc0, hr0, _⟩ := hS.at hs
      rw [Nat.add_zero] at hc0
      have HC : Hid (Calls Tryz.prog 45 #[.slice s2 s.length c2, .int .i32 q] wr fun e w' => e = .returned (.bool (P p)) ∧ (w'.ownsRow w.heap.size 3 1 u5 (J.which P 0 (l.take k)).length ((J.which P 0 (l.take k)).map (Value.int .i64)) ∧ Below w.heap.size w w')) := by
        show Calls _ _ _ _ _
        rw [HPq.out p, hhd]
        refine (refhas_any wr _ s q hr0 (by omega)).mono fun e w' ⟨h1, h2⟩ => ⟨h1, L.owns_below HO.out.1 h2 (Nat.le_refl _), HO.out.2.trans (h2.mono hwr)⟩
      have hlen := J.which_len P (l.take k) 0
      rw [List.length_take] at hlen
      generalize hZ : P p = z at HT HC
      clear hp hZ hv hS hr0 hep hs hhd hok
      obtain ⟨st, fi, be, sou, af, ta, cu⟩ := p
      simp only at a0 a1 a2 a3 a4 a5 a6 hsp
      generalize hU : J.which P 0 (l.take k) = U at HT HC hlen
      clear hU HO
      go_wp2_with fail
      go_at_call 45
      refine HC.out.mono ?_
      rintro e w3 ⟨rfl, own3, b3⟩
      have HO3 : Hid (w3.ownsRow w.heap.size 3 1 u5 U.length (U.map (Value.int .i64))) := own3
      have HB3 : Hid (Below w.heap.size w w3) := b3
      have hw3 : w.heap.size ≤ w3.heap.size := b3.size
      have hblk : Hid (∀ g, u5.ownBlock = some g → w.heap.size ≤ g) := fun g hg => by
        obtain ⟨_, ⟨rfl, _⟩ | ⟨g', cap', cur', rfl, hb', _⟩⟩ := own3
        · cases hg
        · cases hg; exact hb'
      clear own3 b3 a0 a1 a2 a3 a4 a5 a6 HC
      cases z with
      | false =>
        go_wp2
        go_roundw
        case rel =>
          refine ⟨k + 1, by omega, by go_num, ?_⟩
          rw [HT.out, if_neg (by decide), List.append_nil]
          exact ⟨HO3.out, HB3.out⟩
        case measure => simp [RowKit.intOf]; omega
      | true =>
        go_wp2_with (at_builtin; go_must (refine wpList_append_own _ rfl _ _ 72 rfl w.heap.size 3 i0 (.int .i64 0) 1 8 Tryz.underlying72 hi hz0 hz1 hz2 rfl (by decide) _ _ _ rfl (HO3.out.alloc _) ⟨w3.heap.size, 0, none⟩ 1 1 [.int .i64 (k : Int)] rfl rfl (cell_one_new _ _ _) (fun x hx => by simp at hx; subst hx; rfl) (by unfold maxLen; omega) (by omega) (by simp; omega) ?_; intro v' w4 hown' hgrow4 hnil4))
        have HX4 : Hid (w4.ownsRow w.heap.size 3 1 v' (U.length + 1) (U.map (Value.int .i64) ++ [.int .i64 (k : Int)]) ∧ Below w.heap.size w w4) := ⟨hown', Below.grown (HB3.out.alloc hw3 _) hgrow4 (by simp; omega) (fun j hj => hblk.out j hj)⟩
        go_roundw
        case rel =>
          refine ⟨k + 1, by omega, by go_num, ?_⟩
          rw [HT.out, if_pos trivial, List.length_append, List.map_append]
          exact HX4.out
        case measure => simp [RowKit.intOf]; omega
    · have hke : k = l.length := by omega
      subst hke
      rw [List.take_length] at HO
      go_wp2
      go_ret
      exact ⟨_, rfl, HO.out⟩

end Go.Proofs.YtlmmjefplbcapaaGreat

/-
  Numbers held against each other: the document's Same of chapter 9.
-/
namespace Go.Proofs.YtlmmjefplbcapaaGreat
open Go.RowKit
set_option maxRecDepth 20000
set_option linter.unusedSimpArgs false
set_option linter.unusedVariables false

theorem take_eq_snoc9 {a b : List Int} {k : Nat} {x y : Int} (h : a.take k = b.take k) (hx : a[k]? = some x) (hy : b[k]? = some y) (e : x = y) : a.take (k + 1) = b.take (k + 1) := by
  rw [List.take_add_one, List.take_add_one, h, hx, hy, e]

set_option maxHeartbeats 400000 in
theorem rSame9_drew (w : World) (va vb : Value) (za zb : List Int) (ha : L.Rd w va .i64 za) (hb : L.Rd w vb .i64 zb) (hla : za.length ≤ 4611686018427387903) (hlb : zb.length ≤ 4611686018427387903) :
    Calls Tryz.prog 34 #[va, vb] w fun e w' => e = .returned (.bool (decide (za = zb))) ∧ ∃ n, w' = w.drewN n := by
  obtain ⟨ao, ca, rfl, _, ha⟩ := ha
  obtain ⟨bo, cb, rfl, _, hb⟩ := hb
  by_cases hl : za.length = zb.length
  · go_enter Tryz.func34, Tryz.ntmps34
    go_wp2
    go_loopw [13] (fun i wr => ∃ k n : Nat, k ≤ za.length ∧ i = .int .i64 k ∧ za.take k = zb.take k ∧ wr = w.drewN n) (fun i _ => za.length - (intOf i).toNat)
    case atStart => exact ⟨0, 0, Nat.zero_le _, rfl, by simp, rfl⟩
    case round =>
      obtain ⟨k, n, hk, rfl, ht, rfl⟩ := hrel
      by_cases hlt : k < za.length
      · obtain ⟨b1, o1, rfl, hc1⟩ := ha (by intro h; subst h; simp at hlt)
        obtain ⟨b2, o2, rfl, hc2⟩ := hb (by intro h; subst h; simp at hl; rw [hl] at hlt; simp at hlt)
        obtain ⟨x, hx⟩ : ∃ x, za[k]? = some x := ⟨za[k], by simp [hlt]⟩
        obtain ⟨y, hy⟩ : ∃ y, zb[k]? = some y := ⟨zb[k]'(by omega), by simp [show k < zb.length by omega]⟩
        have c1 := hc1 k x hx
        have c2 := hc2 k y hy
        clear hc1 hc2 ha hb
        have HX : Hid (za[k]? = some x ∧ zb[k]? = some y ∧ za.take k = zb.take k) := ⟨hx, hy, ht⟩
        clear hx hy ht
        by_cases hxy : x = y
        · go_wp2
          go_quiet (fail)
          go_wp2
          go_roundw
          case rel => exact ⟨k + 1, _, by omega, by go_num, take_eq_snoc9 HX.out.2.2 HX.out.1 HX.out.2.1 hxy, rfl⟩
          case measure => simp [intOf]; omega
        · go_wp2
          go_quiet (fail)
          go_wp2
          go_ret
          refine ⟨L.ret_bool ?_, ⟨_, World.drewN_drewN _ _ _⟩⟩
          have : za ≠ zb := by
            intro e
            rw [e] at HX
            have h1 := HX.out.1
            rw [HX.out.2.1] at h1
            exact hxy (Option.some.inj h1).symm
          simp [this]
      · go_wp2
        go_ret
        refine ⟨L.ret_bool ?_, ⟨_, rfl⟩⟩
        rw [List.take_of_length_le (by omega), List.take_of_length_le (by omega)] at ht
        simp [ht]
  · go_enter Tryz.func34, Tryz.ntmps34
    go_wp2
    go_ret
    refine ⟨L.ret_bool ?_, ⟨0, rfl⟩⟩
    have : za ≠ zb := by intro e; exact hl (by rw [e])
    simp [this]

theorem rSame9_any (w : World) (va vb : Value) (za zb : List Int) (ha : L.Rd w va .i64 za) (hb : L.Rd w vb .i64 zb) (hla : za.length ≤ 4611686018427387903) (hlb : zb.length ≤ 4611686018427387903) :
    Calls Tryz.prog 34 #[va, vb] w fun e w' => e = .returned (.bool (decide (za = zb))) ∧ Below w.heap.size w w' := by
  refine (rSame9_drew w va vb za zb ha hb hla hlb).mono ?_
  rintro e w' ⟨h1, n, rfl⟩
  exact ⟨h1, below_drewN (Below.refl _ _) _⟩

end Go.Proofs.YtlmmjefplbcapaaGreat

/-
  append at a step of a region that draws its order.
-/
namespace Go.Proofs.YtlmmjefplbcapaaGreat
open Go.RowKit

/-- append at a step of a region that draws its order -/
theorem step_append_o {P : Program} {w : World} {ops : Array Oper} {o : Oper} {a : Act} {K : Act → World → Prop} {Q : Exit → Act → World → Prop} {E : Prop} (hgd : o.guard = none) (s x : Operand) (t : TypeId)
    (ho : o.op = .call { callee := .builtin .append, args := #[s, x], argTypes := #[t, t] })
    (base : Nat) (e : TypeId) (i : TypeInfo) (z : Value) (size bytes : Nat) (ht : P.underlying t = some (.slice e)) (hi : P.info? e = some i) (hz : i.zero = some z)
    (hsize : i.size = size) (hby : i.bytes = bytes) (hzs : z.cells.size = size) (hsz : 0 < size)
    (v : Value) (n : Nat) (xs : List Value) (hs : a.eval s = v) (hown : w.ownsRow base e size v n xs)
    (ad : Addr) (m c : Nat) (news : List Value) (hx : a.eval x = .slice (some ad) m c) (hl : news.length = m * size) (hnews : ∀ j u, news[j]? = some u → w.cell? (ad.add j) = some u) (h1 : ∀ u ∈ news, u.oneCell' = true)
    (h63 : n + m ≤ maxLen) (hbytes : (n + m) * bytes ≤ 140737488355328) (hbase : base ≤ w.heap.size)
    (h : ∀ v' w', w'.ownsRow base e size v' (n + m) (xs ++ news) → w.grownBy w' v.ownBlock → K (a.put o.dst v') w') :
    if Region.wanted o (yielded ops a.tmps) = true then Oper.wp P o a w K Q else E := by
  have hw : Region.wanted o (yielded ops a.tmps) = true := by simp [Region.wanted, hgd]
  rw [if_pos hw]
  exact wp_append_own w s x t ho base e i z size bytes ht hi hz hsize hby hzs hsz v n xs hs hown ad m c news hx hl hnews h1 h63 hbytes hbase fun v' w' h2 h3 _ => h v' w' h2 h3
theorem owns_heap {w w' : World} {base : Nat} {e : TypeId} {size : Nat} {v : Value} {n : Nat} {xs : List Value} (h : w.ownsRow base e size v n xs) (hh : w'.heap = w.heap) : w'.ownsRow base e size v n xs := by
  obtain ⟨h1, h2⟩ := h
  refine ⟨h1, ?_⟩
  rcases h2 with h2 | ⟨g, cap, cur, hv, hg, hx, r⟩
  · exact .inl h2
  · exact .inr ⟨g, cap, cur, hv, hg, by rw [hh]; exact hx, r⟩

end Go.Proofs.YtlmmjefplbcapaaGreat
