/-
  The runes with which rules begin, and whether what they made stays: the document's answers.
-/
import Derived.Test.YtdmpmkcigjkilaaYSteady
import Derived.Test.YtdmpmkcigjkilaaSOfRef
import Derived.Test.YtdmpmkcigjkilaaQWrongR
namespace Go.Proofs.Ytdmpmkcigjkilaa
open Go.RowKit Go.Shelf
set_option maxRecDepth 20000
set_option linter.unusedSimpArgs false
set_option linter.unusedVariables false

namespace K
theorem firstsL_in {l : List Rule} (hE : ∀ r ∈ l, ruleE r = 0) : (fun q => S.inR q && S.memb (firstsL l) q) = S.memb (firstsL l) := by
  funext q
  cases hm : S.memb (firstsL l) q with
  | false => simp
  | true =>
    obtain ⟨x, hx, h1, h2⟩ := S.memb_iff.1 hm
    obtain ⟨r, hr, hx⟩ := List.mem_flatMap.1 hx
    have h := (head_ok (hE r hr)).1.mem hx
    simp [S.inR]; omega
theorem firstsL_fit {l : List Rule} (hE : ∀ r ∈ l, ruleE r = 0) : S.Fit (firstsL l) := fun x hx => by
  obtain ⟨r, hr, hx⟩ := List.mem_flatMap.1 hx
  have h := (head_ok (hE r hr)).1.mem hx
  omega
theorem memb_firsts (l : List Rule) (x : Int) : S.memb (firstsL l) x = l.any fun q => S.memb (headS q) x := by
  apply S.bool_eq
  rw [S.memb_iff, List.any_eq_true]
  constructor
  · rintro ⟨y, hy, h⟩
    obtain ⟨r, hr, hy⟩ := List.mem_flatMap.1 hy
    exact ⟨r, hr, S.memb_iff.2 ⟨y, hy, h⟩⟩
  · rintro ⟨r, hr, h⟩
    obtain ⟨y, hy, h⟩ := S.memb_iff.1 h
    exact ⟨y, List.mem_flatMap.2 ⟨r, hr, hy⟩, h⟩
/-- as the document asks it, rule by rule -/
def shapeB (r : Rule) : Bool := decide (1 < r.source.length) || decide (0 < r.after.length) || r.fin || decide (r.cursor < r.target.length)
def stir9 (l : List Rule) (r : Rule) : Bool := shapeB r || r.target.any (S.memb (firstsL l))
theorem steady9 {l : List Rule} (hE : ∀ r ∈ l, ruleE r = 0) : steadyB l = !(l.any (stir9 l)) := by
  unfold steadyB sureB
  apply S.bool_eq
  rw [Bool.and_eq_true, List.all_eq_true]
  simp only [Bool.not_eq_true', List.any_eq_false]
  constructor
  · rintro ⟨h1, h2⟩ r hr
    have a1 := h1 r hr
    have a2 := h2 r hr
    unfold goesB at a1
    unfold stirsB at a2
    unfold stir9 shapeB
    have hc : r.cursor = r.target.length := by simpa using a1
    simp only [Bool.or_eq_true, Bool.not_eq_true', decide_eq_false_iff_not, decide_eq_true_eq, not_or] at a2 ⊢
    obtain ⟨⟨⟨q1, q2⟩, q3⟩, q4⟩ := a2
    exact ⟨⟨⟨⟨by omega, q2⟩, q3⟩, by omega⟩, q4⟩
  · intro h
    refine ⟨fun r hr => ?_, fun r hr => ?_⟩
    · have a := h r hr
      have hz := ruleE_zero (hE r hr)
      unfold stir9 shapeB at a
      simp only [Bool.or_eq_true, decide_eq_true_eq, not_or] at a
      unfold goesB
      have := hz.2.2.2.2.2.2.2
      simp only [decide_eq_true_eq]
      omega
    · have a := h r hr
      have hz := (ruleE_zero (hE r hr)).2.2.2.1
      unfold stir9 shapeB at a
      unfold stirsB
      simp only [Bool.or_eq_true, Bool.not_eq_true', decide_eq_false_iff_not, decide_eq_true_eq, not_or] at a ⊢
      obtain ⟨⟨⟨⟨q1, q2⟩, q3⟩, _⟩, q4⟩ := a
      exact ⟨⟨⟨by omega, q2⟩, q3⟩, q4⟩
end K

set_option maxHeartbeats 4000000 in
theorem rFirsts9_any (w : World) (v : Value) (l : List K.Rule) (R0 : V.Rus w v l) (hl : l.length ≤ 200) (hE : ∀ r ∈ l, K.ruleE r = 0) :
    Calls Try.prog 26 #[v] w (Tells w 0 0 (S.memb (K.firstsL l))) := by
  have HR : Hid (V.Rus w v l) := R0
  have HE2 : Hid (∀ r ∈ l, K.ruleE r = 0) := hE
  obtain ⟨ao, cap, rfl⟩ := R0.len
  obtain ⟨P, hP⟩ : ∃ P, S.memb (K.firstsL l) = P := ⟨_, rfl⟩
  have HP : Hid (S.memb (K.firstsL l) = P) := hP
  rw [hP]
  clear R0 hE hP
  go_enter Try.func26, Try.ntmps26
  go_wp2
  go_loopw [4, 9] (fun vo i wr => ∃ k : Nat, k ≤ l.length ∧ i = .int .i64 k ∧ Hid (wr.ownsRow w.heap.size 99 2 vo (K.firstsL (l.take k)).length (S.cellsOf (K.firstsL (l.take k)))) ∧ Hid (Below w.heap.size w wr)) (fun _ i _ => l.length - (intOf i).toNat)
  case atStart => exact ⟨0, Nat.zero_le _, rfl, World.ownsRow_nil _ _ _ _, Below.refl _ _⟩
  case round =>
    obtain ⟨k, hk, rfl, HOw, HB⟩ := hrel
    have hwr := HB.out.size
    by_cases hlt : k < l.length
    · obtain ⟨p, hp⟩ : ∃ x, l[k]? = some x := ⟨l[k], by simp [hlt]⟩
      obtain ⟨ba, oa, bo, bc, so, sc, ao2, ac, to, tc, rfl, a0, a1, a2, a3, a4, a5, a6, hP⟩ := K.Rus.rule (HR.out.below HB.out) hp
      have hep := HE2.out p (List.mem_of_getElem? hp)
      have hsp := (K.ruleE_zero hep).2.2.2.1
      obtain ⟨s, hs⟩ : ∃ s, p.source[0]? = some s := ⟨p.source[0], by simp⟩
      have hhd := K.head_at hs
      have hok := K.head_ok hep
      rw [hhd] at hok
      have hlen := K.firstsL_len (l := l.take k) fun r hr => HE2.out r (List.mem_of_mem_take hr)
      rw [List.length_take] at hlen
      have HF : Hid (K.firstsL (l.take (k + 1)) = K.firstsL (l.take k) ++ s) := by show _ = _; rw [K.firstsL_take hp, hhd]
      obtain ⟨bo', bc', so', sc', ao', ac', to', tc', hv, _, hS, _⟩ := hP
      have hv2 := Value.agg.inj hv
      simp only [Array.mk.injEq, List.cons.injEq, Value.slice.injEq, true_and, and_true] at hv2
      obtain ⟨_, ⟨rfl, rfl⟩, _⟩ := hv2
      obtain ⟨gb, go, s2, c2, rfl, hc0, hr0, _⟩ := hS.at hs
      rw [Nat.add_zero] at hc0
      have hgb := L.block_lt hc0
      have HRd : Hid (∀ o, S.Rd (wr.alloc o) (.slice s2 s.length c2) s) := fun o => hr0.below ((Below.refl _ wr).alloc (Nat.le_refl _) o) (Nat.le_refl _)
      have hcc : ∀ o, (wr.alloc o).cell? ⟨gb, go, none⟩ = some (.slice s2 s.length c2) := fun o => K.alloc_cell hc0 o
      have HOa : Hid (∀ o, (wr.alloc o).ownsRow w.heap.size 99 2 u4 (K.firstsL (l.take k)).length (S.cellsOf (K.firstsL (l.take k)))) := fun o => HOw.out.alloc o
      have HBal : Hid (∀ o, Below w.heap.size w (wr.alloc o)) := fun o => HB.out.alloc hwr o
      have hl2 : (K.firstsL (l.take k)).length + s.length ≤ 1000000 := by have := hok.2; omega
      clear hp hep hs hhd hok hv hS hr0 hc0 hlen
      obtain ⟨st, fi, be, sou, af, ta, cu⟩ := p
      simp only at a0 a1 a2 a3 a4 a5 a6 hsp
      go_wp2_with (at_builtin; go_must (refine S.wpList_append_sp rfl _ _ rfl w.heap.size _ _ rfl (HOa.out _) _ s rfl (HRd.out _) hl2 (by simp; omega) ?_; intro v' w4 hown' hgrow4; have HX4 : Hid (w4.ownsRow w.heap.size 99 2 v' (K.firstsL (l.take k) ++ s).length (S.cellsOf (K.firstsL (l.take k) ++ s)) ∧ Below w.heap.size w w4) := ⟨hown', Below.grown (HBal.out _) hgrow4 (by simp; omega) (fun j hj => (HOw.out.lt _ hj).1)⟩; clear hown' hgrow4))
      go_roundw
      case rel => exact ⟨k + 1, by omega, by go_num, by rw [HF.out]; exact HX4.out.1, HX4.out.2⟩
      case measure => simp [intOf]; omega
    · have hkl : k = l.length := by omega
      subst hkl
      rw [List.take_length] at HOw
      have hlen := K.firstsL_len HE2.out
      have hof := refof_any wr _ (K.firstsL l) (S.Rd.of_owns HOw.out) (K.firstsL_fit HE2.out) (by omega)
      rw [K.firstsL_bad HE2.out, if_neg (by decide), K.firstsL_in HE2.out, HP.out] at hof
      have hcut : ∃ ao n c, u4 = .slice ao n c := by
        obtain ⟨a, c, h, _⟩ := S.Rd.of_owns HOw.out
        exact ⟨a, _, c, h⟩
      obtain ⟨ua, un, uc, rfl⟩ := hcut
      generalize hre : S.resE 0 0 P = re at hof
      have HRE : Hid (S.resE 0 0 P = re) := hre
      clear hre
      go_wp2_with fail
      refine hof.mono ?_
      rintro e w5 ⟨v5, rfl, R5, b5, hex⟩
      obtain ⟨va, vn, vc, rfl⟩ : ∃ a n c, v5 = .slice a n c := by obtain ⟨a, c, h, _⟩ := R5; exact ⟨a, _, c, h⟩
      have HZ : Hid (S.Rd w5 (.slice va vn vc) (S.resL 0 0 P) ∧ Below w.heap.size w w5 ∧ ∃ s, S.Is P s) := ⟨R5, HB.out.trans (b5.mono hwr), hex rfl rfl⟩
      clear hof hex R5 b5
      go_wp2
      go_ret2
      exact ⟨_, rfl, HZ.out.1, HZ.out.2.1, fun _ _ => HZ.out.2.2⟩

end Go.Proofs.Ytdmpmkcigjkilaa
