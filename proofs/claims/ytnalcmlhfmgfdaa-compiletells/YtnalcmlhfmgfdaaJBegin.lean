/-
  The rules that begin with a rune: the document's answer.
-/
import Derived.Test.YtnalcmlhfmgfdaaJHeads
import Derived.Test.YtnalcmlhfmgfdaaSRefHas
namespace Go.Proofs.Ytnalcmlhfmgfdaa
open Go.RowKit Go.Shelf
set_option maxRecDepth 20000
set_option linter.unusedSimpArgs false
set_option linter.unusedVariables false

set_option maxHeartbeats 4000000 in
theorem rBegin_any (w : World) (v : Value) (l : List K.Rule) (R0 : V.Rus w v l) (hl : l.length ≤ 200) (hE : ∀ r ∈ l, K.ruleE r = 0) (q : Int) :
    Calls Try.prog 17 #[v, .int .i32 q] w fun e w' => ∃ v', e = .returned v' ∧ w'.ownsRow w.heap.size 3 1 v' (J.begins l q).length ((J.begins l q).map (Value.int .i64)) ∧ Below w.heap.size w w' := by
  have HR : Hid (V.Rus w v l) := R0
  have HE : Hid (∀ r ∈ l, K.ruleE r = 0) := hE
  obtain ⟨i0, hi, hz0, hz1, hz2⟩ := info_parts Try.infoIntJ
  obtain ⟨ao, cap, rfl⟩ := R0.len
  obtain ⟨P, hP⟩ : ∃ P : K.Rule → Bool, P = fun r => S.memb (K.headS r) q := ⟨_, rfl⟩
  have HPq : Hid (∀ r, P r = S.memb (K.headS r) q) := fun r => by rw [hP]
  have hbg : J.begins l q = J.which P 0 l := by rw [hP]; rfl
  rw [hbg]
  clear R0 hE hP hbg
  go_enter Try.func17, Try.ntmps17
  go_wp2_with fail
  go_loopw [5, 9] (fun vo i wr => ∃ k : Nat, k ≤ l.length ∧ i = .int .i64 k ∧ Hid (wr.ownsRow w.heap.size 3 1 vo (J.which P 0 (l.take k)).length ((J.which P 0 (l.take k)).map (Value.int .i64)) ∧ Below w.heap.size w wr)) (fun _ i _ => l.length - (RowKit.intOf i).toNat)
  case atStart => exact ⟨0, Nat.zero_le _, rfl, World.ownsRow_nil _ _ _ _, Below.refl _ _⟩
  case round =>
    obtain ⟨k, hk, rfl, HO⟩ := hrel
    have hwr := HO.out.2.size
    by_cases hlt : k < l.length
    · obtain ⟨p, hp⟩ : ∃ x, l[k]? = some x := ⟨l[k], by simp [hlt]⟩
      obtain ⟨ba, oa, bo, bc, so, sc, ao2, ac, tt, tc, rfl, a0, a1, a2, a3, a4, a5, a6, hP⟩ := K.Rus.rule (HR.out.below HO.out.2) hp
      have HT : Hid (J.which P 0 (l.take (k + 1)) = J.which P 0 (l.take k) ++ (if P p then [(k : Int)] else [])) := J.which_take hp
      have hep := HE.out p (List.mem_of_getElem? hp)
      have hsp := (K.ruleE_zero hep).2.2.2.1
      obtain ⟨s, hs⟩ : ∃ s, p.source[0]? = some s := ⟨p.source[0], by simp⟩
      have hhd := K.head_at hs
      have hok := K.head_ok hep
      rw [hhd] at hok
      obtain ⟨bo', bc', so', sc', ao', ac', tt', tc', hv, _, hS, _⟩ := hP
      have hv2 := Value.agg.inj hv
      simp only [Array.mk.injEq, List.cons.injEq, Value.slice.injEq, true_and, and_true] at hv2
      obtain ⟨⟨rfl, rfl⟩, ⟨rfl, rfl⟩, ⟨rfl, rfl⟩, rfl, rfl⟩ := hv2
      obtain ⟨gb, go, s2, c2, rfl, hc0, hr0, _⟩ := hS.at hs
      rw [Nat.add_zero] at hc0
      have HC : Hid (Calls Try.prog 33 #[.slice s2 s.length c2, .int .i32 q] wr fun e w' => e = .returned (.bool (P p)) ∧ (w'.ownsRow w.heap.size 3 1 u5 (J.which P 0 (l.take k)).length ((J.which P 0 (l.take k)).map (Value.int .i64)) ∧ Below w.heap.size w w')) := by
        show Calls _ _ _ _ _
        rw [HPq.out p, hhd]
        refine (refhas_any wr _ s q hr0 (by omega)).mono fun e w' ⟨h1, h2⟩ => ⟨h1, L.owns_below HO.out.1 h2 (Nat.le_refl _), HO.out.2.trans (h2.mono hwr)⟩
      have hlen := J.which_len P (l.take k) 0
      rw [List.length_take] at hlen
      generalize hZ : P p = z at HT HC
      clear hp hZ hv hS hr0 hep hs hhd hok
      obtain ⟨st, fi, be, sou, af, ta, cu⟩ := p
      simp only at a0 a1 a2 a3 a4 a5 a6 hsp
      generalize hU : J.which P 0 (l.take k) = U at HT HC hlen
      clear hU HO
      go_wp2_with fail
      go_at_call 33
      refine HC.out.mono ?_
      rintro e w3 ⟨rfl, own3, b3⟩
      have HO3 : Hid (w3.ownsRow w.heap.size 3 1 u5 U.length (U.map (Value.int .i64))) := own3
      have HB3 : Hid (Below w.heap.size w w3) := b3
      have hw3 : w.heap.size ≤ w3.heap.size := b3.size
      have hblk : Hid (∀ g, u5.ownBlock = some g → w.heap.size ≤ g) := fun g hg => by
        obtain ⟨_, ⟨rfl, _⟩ | ⟨g', cap', cur', rfl, hb', _⟩⟩ := own3
        · cases hg
        · cases hg; exact hb'
      clear own3 b3 a0 a1 a2 a3 a4 a5 a6 HC
      cases z with
      | false =>
        go_wp2
        go_roundw
        case rel =>
          refine ⟨k + 1, by omega, by go_num, ?_⟩
          rw [HT.out, if_neg (by decide), List.append_nil]
          exact ⟨HO3.out, HB3.out⟩
        case measure => simp [RowKit.intOf]; omega
      | true =>
        go_wp2_with (at_builtin; go_must (refine wpList_append_own _ rfl _ _ 40 rfl w.heap.size 3 i0 (.int .i64 0) 1 8 Try.underlying40 hi hz0 hz1 hz2 rfl (by decide) _ _ _ rfl (HO3.out.alloc _) ⟨w3.heap.size, 0, none⟩ 1 1 [.int .i64 (k : Int)] rfl rfl (cell_one_new _ _ _) (fun x hx => by simp at hx; subst hx; rfl) (by unfold maxLen; omega) (by omega) (by simp; omega) ?_; intro v' w4 hown' hgrow4 hnil4))
        have HX4 : Hid (w4.ownsRow w.heap.size 3 1 v' (U.length + 1) (U.map (Value.int .i64) ++ [.int .i64 (k : Int)]) ∧ Below w.heap.size w w4) := ⟨hown', Below.grown (HB3.out.alloc hw3 _) hgrow4 (by simp; omega) (fun j hj => hblk.out j hj)⟩
        go_roundw
        case rel =>
          refine ⟨k + 1, by omega, by go_num, ?_⟩
          rw [HT.out, if_pos trivial, List.length_append, List.map_append]
          exact HX4.out
        case measure => simp [RowKit.intOf]; omega
    · have hke : k = l.length := by omega
      subst hke
      rw [List.take_length] at HO
      go_wp2
      go_ret
      exact ⟨_, rfl, HO.out⟩

end Go.Proofs.Ytnalcmlhfmgfdaa
