/-
  The numbers from which on other rules may begin: compile.edges.
-/
import Derived.Test.YtnalcmlhfmgfdaaYRus
import Derived.Test.YtnalcmlhfmgfdaaZSort
namespace Go.Proofs.Ytnalcmlhfmgfdaa
open Go.RowKit Go.Shelf
set_option maxRecDepth 20000
set_option linter.unusedSimpArgs false
set_option linter.unusedVariables false

namespace J
def ends (s : List S.Sp) : List Int := s.flatMap fun x => [x.1, x.2 + 1]
def edgesL (l : List K.Rule) : List Int := [0, 1114112] ++ l.flatMap fun r => ends (K.headS r)
theorem ends_take {s : List S.Sp} {k : Nat} {x : S.Sp} (h : s[k]? = some x) : ends (s.take (k + 1)) = ends (s.take k) ++ [x.1, x.2 + 1] := by
  unfold ends; rw [List.take_add_one, h, List.flatMap_append]; simp
theorem edgesL_take {l : List K.Rule} {k : Nat} {r : K.Rule} (h : l[k]? = some r) : edgesL (l.take (k + 1)) = edgesL (l.take k) ++ ends (K.headS r) := by
  unfold edgesL; rw [List.take_add_one, h, List.flatMap_append, List.append_assoc]; simp
theorem ends_len (s : List S.Sp) : (ends s).length = 2 * s.length := by
  unfold ends
  induction s with
  | nil => rfl
  | cons x s ih => rw [List.flatMap_cons, List.length_append, ih]; simp; omega
theorem edgesL_len {l : List K.Rule} (hE : ∀ r ∈ l, K.ruleE r = 0) : (edgesL l).length ≤ 2 + 400 * l.length := by
  induction l with
  | nil => simp [edgesL]
  | cons x l ih =>
    have h1 := (K.head_ok (hE x (List.mem_cons_self ..))).2
    have h2 := ih fun r hr => hE r (List.mem_cons_of_mem _ hr)
    have h3 := ends_len (K.headS x)
    unfold edgesL at h2 ⊢
    rw [List.length_append, show ([0, 1114112] : List Int).length = 2 from rfl] at h2 ⊢
    rw [List.flatMap_cons, List.length_append, List.length_cons]
    omega
theorem two (W : World) (a b : Int) : L.Rd (W.alloc (.cells #[.int .i32 a, .int .i32 b] 21)) (.slice (some ⟨W.heap.size, 0, none⟩) 2 2) .i32 [a, b] := by
  refine ⟨_, _, rfl, by simp, fun _ => ⟨W.heap.size, 0, rfl, fun j x hj => ?_⟩⟩
  have e : (W.alloc (.cells #[.int .i32 a, .int .i32 b] 21)).heap[W.heap.size]? = some (.cells #[.int .i32 a, .int .i32 b] 21) := by
    show (W.heap.push _)[W.heap.size]? = _
    exact Array.getElem?_push_size
  match j, hj with
  | 0, hj => exact K.at_box e (by simpa using hj)
  | 1, hj => exact K.at_box e (by simpa using hj)
  | n + 2, hj => simp at hj
theorem own2 (w : World) : (w.alloc (.cells #[.int .i32 0, .int .i32 1114112] 21)).ownsRow w.heap.size 21 1 (.slice (some ⟨w.heap.size, 0, none⟩) 2 2) (edgesL []).length (Z.ints (edgesL [])) := by
  refine ⟨rfl, .inr ⟨w.heap.size, 2, #[.int .i32 0, .int .i32 1114112], rfl, Nat.le_refl _, ?_, Nat.le_refl _, by unfold maxLen; omega, rfl, rfl⟩⟩
  show (w.heap.push _)[w.heap.size]? = _
  exact Array.getElem?_push_size
end J

set_option maxHeartbeats 4000000 in
theorem jEdges_any (w : World) (v : Value) (l : List K.Rule) (R0 : V.Rus w v l) (hl : l.length ≤ 200) (hE : ∀ r ∈ l, K.ruleE r = 0) :
    Calls Try.prog 26 #[v] w fun e w' => ∃ (v' : Value) (c : List Int), e = .returned v' ∧ c.Pairwise (· < ·) ∧ (∀ y, y ∈ c ↔ y ∈ J.edgesL l) ∧ w'.ownsRow w.heap.size 21 1 v' c.length (Z.ints c) ∧ Below w.heap.size w w' := by
  have HR : Hid (V.Rus w v l) := R0
  have HE : Hid (∀ r ∈ l, K.ruleE r = 0) := hE
  obtain ⟨i0, hi, hz0, hz1, hz2⟩ := info_parts Try.infoI32
  obtain ⟨ao, cap, rfl⟩ := R0.len
  clear R0 hE
  go_enter Try.func26, Try.ntmps26
  go_wp2_with fail
  go_loopw [3, 11] (fun vo i wr => ∃ k : Nat, k ≤ l.length ∧ i = .int .i64 k ∧ Hid (wr.ownsRow w.heap.size 21 1 vo (J.edgesL (l.take k)).length (Z.ints (J.edgesL (l.take k))) ∧ Below w.heap.size w wr)) (fun _ i _ => l.length - (RowKit.intOf i).toNat)
  case atStart => exact ⟨0, Nat.zero_le _, rfl, J.own2 w, (Below.refl _ w).alloc (Nat.le_refl _) _⟩
  case round =>
    obtain ⟨k, hk, rfl, HO⟩ := hrel
    have hwr := HO.out.2.size
    by_cases hlt : k < l.length
    · obtain ⟨p, hp⟩ : ∃ x, l[k]? = some x := ⟨l[k], by simp [hlt]⟩
      obtain ⟨ba, oa, bo, bc, so, sc, ao2, ac, tt, tc, rfl, a0, a1, a2, a3, a4, a5, a6, hP⟩ := K.Rus.rule HR.out hp
      have lift : ∀ b o x, w.cell? ⟨b, o, none⟩ = some x → wr.cell? ⟨b, o, none⟩ = some x := fun b o x h => by rw [(L.bcell HO.out.2).1 b o (L.block_lt h)]; exact h
      replace a0 := lift _ _ _ a0
      replace a1 := lift _ _ _ a1
      replace a2 := lift _ _ _ a2
      replace a3 := lift _ _ _ a3
      replace a4 := lift _ _ _ a4
      replace a5 := lift _ _ _ a5
      replace a6 := lift _ _ _ a6
      have hep := HE.out p (List.mem_of_getElem? hp)
      have hsp := (K.ruleE_zero hep).2.2.2.1
      obtain ⟨s, hs⟩ : ∃ s, p.source[0]? = some s := ⟨p.source[0], by simp⟩
      have hhd := K.head_at hs
      have hok := K.head_ok hep
      rw [hhd] at hok
      have hlen := J.edgesL_len (l := l.take k) fun r hr => HE.out r (List.mem_of_mem_take hr)
      rw [List.length_take] at hlen
      have HF : Hid (J.edgesL (l.take (k + 1)) = J.edgesL (l.take k) ++ J.ends s) := by show _ = _; rw [J.edgesL_take hp, hhd]
      obtain ⟨bo', bc', so', sc', ao', ac', tt', tc', hv, _, hS, _⟩ := hP
      have hv2 := Value.agg.inj hv
      simp only [Array.mk.injEq, List.cons.injEq, Value.slice.injEq, true_and, and_true] at hv2
      obtain ⟨⟨rfl, rfl⟩, ⟨rfl, rfl⟩, ⟨rfl, rfl⟩, rfl, rfl⟩ := hv2
      obtain ⟨gb, go, s2, c2, rfl, hc0, hr0, _⟩ := hS.at hs
      rw [Nat.add_zero] at hc0
      have HRd : Hid (S.Rd w (.slice s2 s.length c2) s) := hr0
      replace hc0 := lift _ _ _ hc0
      have HNf : Hid (S.Nf 0 s) := hok.1
      have hcc : ∀ o, (wr.alloc o).cell? ⟨gb, go, none⟩ = some (.slice s2 s.length c2) := fun o => K.alloc_cell hc0 o
      obtain ⟨T, hT⟩ : ∃ T, T = J.edgesL (l.take k) := ⟨_, rfl⟩
      rw [← hT] at HF HO hlen
      have HOa : Hid (∀ o, (wr.alloc o).ownsRow w.heap.size 21 1 u3 T.length (Z.ints T) ∧ Below w.heap.size w (wr.alloc o) ∧ Below wr.heap.size wr (wr.alloc o)) := fun o => ⟨HO.out.1.alloc o, HO.out.2.alloc hwr o, (Below.refl _ wr).alloc (Nat.le_refl _) o⟩
      have hsl : s.length ≤ 200 := hok.2
      clear hp hep hs hhd hok hv hS hr0 hc0 hT lift
      obtain ⟨st, fi, be, sou, af, ta, cu⟩ := p
      simp only at a0 a1 a2 a3 a4 a5 a6 hsp
      go_wp2_with fail
      go_loopw [3, 20] (fun vo i wx => ∃ q : Nat, q ≤ s.length ∧ i = .int .i64 q ∧ Hid (wx.ownsRow w.heap.size 21 1 vo (T ++ J.ends (s.take q)).length (Z.ints (T ++ J.ends (s.take q))) ∧ Below w.heap.size w wx)) (fun _ i _ => s.length - (RowKit.intOf i).toNat)
      case atStart =>
        refine ⟨0, Nat.zero_le _, rfl, ?_, (HOa.out _).2.1⟩
        simp only [List.take_zero, J.ends, List.flatMap_nil, List.append_nil]
        exact (HOa.out _).1
      case round =>
        obtain ⟨q, hq, rfl, HQ⟩ := hrel
        have hw2 := HQ.out.2.size
        clear HOa hcc a0 a1 a2 a3 a4 a5 a6
        by_cases hqs : q < s.length
        · obtain ⟨x, hx⟩ : ∃ x, s[q]? = some x := ⟨s[q], by simp [hqs]⟩
          have hxr := HNf.out.mem (List.mem_of_getElem? hx)
          have HX : Hid (T ++ J.ends (s.take (q + 1)) = T ++ J.ends (s.take q) ++ [x.1, x.2 + 1]) := by show _ = _; rw [J.ends_take hx, List.append_assoc]
          obtain ⟨a9, c9, e9, _, hc9⟩ := HRd.out.below HQ.out.2 (Nat.le_refl _)
          cases e9
          obtain ⟨sb, sf, rfl, hcell⟩ := hc9 (by intro h; subst h; simp at hx)
          obtain ⟨y0, y1⟩ := hcell q x hx
          have hl3 := J.ends_len (s.take q)
          rw [List.length_take] at hl3
          have HBx : Hid (∀ o o', Below wr.heap.size wr ((wr.alloc o).alloc o')) := fun o o' => ((Below.refl _ wr).alloc (Nat.le_refl _) o).alloc (by simp) o'
          have HOx : Hid (∀ o o', ((wr.alloc o).alloc o').ownsRow w.heap.size 21 1 u3 (T ++ J.ends (s.take q)).length (Z.ints (T ++ J.ends (s.take q)))) := fun o o' => (HQ.out.1.alloc o).alloc o'
          have h63 : (T ++ J.ends (s.take q)).length + 2 ≤ 200000 := by rw [List.length_append]; omega
          obtain ⟨x1, x2⟩ := x
          simp only at hxr y0 y1 HX
          generalize hU : T ++ J.ends (s.take q) = U at HX HOx h63 HQ
          clear hU hl3
          have HQB : Hid (Below w.heap.size w wr) := HQ.out.2
          have hblk : Hid (∀ g, u3.ownBlock = some g → w.heap.size ≤ g) := fun g hg => by
            obtain ⟨_, ⟨rfl, _⟩ | ⟨g', cap', cur', rfl, hb', _⟩⟩ := HQ.out.1
            · cases hg
            · cases hg; exact hb'
          have HTw : Hid (∀ o, L.Rd ((wr.alloc o).alloc (.cells #[.int .i32 x1, .int .i32 (x2 + 1)] 21)) (.slice (some ⟨wr.heap.size + 1, 0, none⟩) 2 2) .i32 [x1, x2 + 1]) := fun o => by
            have := J.two (wr.alloc o) x1 (x2 + 1)
            rw [show (wr.alloc o).heap.size = wr.heap.size + 1 by simp] at this
            exact this
          obtain ⟨hx1, hx2, hx3⟩ := hxr
          clear HQ hcell hx hc9
          go_wp2_with (at_builtin; go_must (refine L.wpList_append_rd rfl _ _ 23 rfl w.heap.size 21 i0 .i32 4 Try.underlying23 hi hz0 hz1 hz2 _ _ _ rfl (HOx.out _ _) _ [x1, x2 + 1] rfl (HTw.out _) (by unfold maxLen; simp; omega) (by simp; omega) (by simp; omega) ?_; intro v' w4 own4 grown4))
          have HX4 : Hid (w4.ownsRow w.heap.size 21 1 v' (T ++ J.ends (s.take (q + 1))).length (Z.ints (T ++ J.ends (s.take (q + 1)))) ∧ Below w.heap.size w w4) := by
            refine ⟨?_, Below.grown (HQB.out.trans ((HBx.out _ _).mono hw2)) grown4 (by simp; omega) (fun j hj => hblk.out j hj)⟩
            rw [HX.out, List.length_append, Z.ints, List.map_append]
            exact own4
          go_roundw
          case rel => exact ⟨q + 1, by omega, by go_num, HX4.out⟩
          case measure => simp [RowKit.intOf]; omega
        · have hqe : q = s.length := by omega
          subst hqe
          rw [List.take_length, ← HF.out] at HQ
          go_wp2_with fail
          go_roundw
          case rel => exact ⟨k + 1, by omega, by go_num, HQ.out⟩
          case measure => simp [RowKit.intOf]; omega
    · have hke : k = l.length := by omega
      subst hke
      rw [List.take_length] at HO
      have hlen := J.edgesL_len HE.out
      have hne : J.edgesL l ≠ [] := by simp [J.edgesL]
      have hso := zsort_own wr w.heap.size u3 (J.edgesL l) HO.out.1 hne (by omega)
      have HSo : Hid (Calls Try.prog 42 #[u3] wr fun x w' => x = .returned (.tuple #[]) ∧ ∃ R : Array Int, R.size = (J.edgesL l).length ∧ Sort.SortedIn Sort.ltInt 0 R.size R ∧ (∀ x, x ∈ R.toList ↔ x ∈ J.edgesL l) ∧ w'.ownsRow w.heap.size 21 1 u3 (J.edgesL l).length (Z.ints R.toList) ∧ wr.grownBy w' u3.ownBlock) := hso
      have hblk : Hid (∀ g, u3.ownBlock = some g → w.heap.size ≤ g) := fun g hg => by
        obtain ⟨_, ⟨rfl, _⟩ | ⟨g', cap', cur', rfl, hb', _⟩⟩ := HO.out.1
        · cases hg
        · cases hg; exact hb'
      have hpos : 0 < (J.edgesL l).length := List.length_pos_iff.2 hne
      clear hso
      go_wp2_with fail
      go_at_call 42
      refine HSo.out.mono ?_
      rintro _ w2 ⟨rfl, R, hR, hS, hM, own2, gr2⟩
      have hB2 : Below w.heap.size w w2 := Below.grown HO.out.2 gr2 hwr (fun j hj => hblk.out j hj)
      rw [← hR] at own2
      have hco := zcompact_own w2 w.heap.size u3 R own2 (by omega) hS
      have HCo : Hid (Calls Try.prog 43 #[u3] w2 fun x w' => ∃ (v' : Value) (c : List Int), x = .returned v' ∧ c.Pairwise (· < ·) ∧ (∀ y, y ∈ c ↔ y ∈ R.toList) ∧ w'.ownsRow w.heap.size 21 1 v' c.length (Z.ints c) ∧ w2.grownBy w' u3.ownBlock ∧ v'.ownBlock = u3.ownBlock) := hco
      have HM : Hid (∀ x, x ∈ R.toList ↔ x ∈ J.edgesL l) := hM
      have HB2 : Hid (Below w.heap.size w w2) := hB2
      clear hco hM hB2 own2 gr2 HSo hS hR
      go_wp2_with fail
      go_at_call 43
      refine HCo.out.mono ?_
      rintro _ w3 ⟨v', c, rfl, hp, hm, own3, gr3, hv'⟩
      have HF : Hid (c.Pairwise (· < ·) ∧ (∀ y, y ∈ c ↔ y ∈ J.edgesL l) ∧ w3.ownsRow w.heap.size 21 1 v' c.length (Z.ints c) ∧ Below w.heap.size w w3) := ⟨hp, fun y => (hm y).trans (HM.out y), own3, Below.grown HB2.out gr3 HB2.out.size (fun j hj => hblk.out j hj)⟩
      clear hp hm own3 gr3 hv' HCo
      go_wp2_with fail
      go_ret
      exact ⟨v', c, rfl, HF.out⟩

end Go.Proofs.Ytnalcmlhfmgfdaa
