/-
  leet: small letters, then one rune each. Plain lists.
-/
import Derived.Test.YtgbhkkojkpndmaaGreatDoorShByP
import Derived.Test.YtgbhkkojkpndmaaGreatDoorShLaw
namespace Go.Proofs.YtgbhkkojkpndmaaGreatDoor.Sh
def ltL : List (List S.Sp × List Int) := [([(97, 97)], [52]), ([(101, 101)], [51]), ([(105, 105)], [49]), ([(111, 111)], [48]), ([(115, 115)], [53]), ([(116, 116)], [55])]
def lowerS (l : List K.Rule) : V.Script := ⟨false, [], [⟨⟨#[108, 111, 119, 101, 114]⟩, []⟩, ⟨⟨#[]⟩, l⟩]⟩
theorem low_right {r : Int} (h : M.right r = true) : M.right (Cn.low r) = true := by
  have h1 := zb4 h
  unfold Cn.low
  split
  · rename_i h2
    unfold Cn.lessF at h2
    unfold M.right
    rw [decide_eq_true_eq]
    repeat' split at h2
    all_goals omega
  · split
    · rename_i h2
      unfold Cn.lessF at h2
      unfold M.right
      rw [decide_eq_true_eq]
      repeat' split at h2
      all_goals omega
    · exact h
theorem go_low {pl : Cn.Pl} (hpl : Cn.PlOk pl) {l : List K.Rule} {t x : List Int} {s p : Int} (hr : (K.rulesF l).1 = 0) (hed : (J.edgesL l).length ≤ 400) (hx : Cn.Tx t) (hx2 : Cn.Tx (t.map Cn.low)) (hp : K.play l (8 * (t.map Cn.low).length + 40) [] (t.map Cn.low) 0 0 = (0, x, s, p)) : Cn.goF pl (lowerS l) t = (x, 0, 0) := by
  obtain ⟨o, hc, h0⟩ := chk hr hed hx2
  have he : (⟨#[]⟩ : ByteArray).toList = [] := by decide +kernel
  have he1 : ¬ (⟨#[108, 111, 119, 101, 114]⟩ : ByteArray).toList = [] := by decide +kernel
  have he2 : ¬ (⟨#[108, 111, 119, 101, 114]⟩ : ByteArray).toList = [117, 112, 112, 101, 114] := by decide +kernel
  have he3 : (⟨#[108, 111, 119, 101, 114]⟩ : ByteArray).toList = [108, 111, 119, 101, 114] := by decide +kernel
  have hE : Cn.passE ⟨⟨#[]⟩, l⟩ = 0 := by unfold Cn.passE; rw [if_pos he]; exact hr
  have hE1 : Cn.passE ⟨⟨#[108, 111, 119, 101, 114]⟩, []⟩ = 0 := by unfold Cn.passE; rw [if_neg he1, if_pos (by decide +kernel), if_neg (by decide)]
  have hw : (Cn.wrongF (lowerS l)).1 = 0 := by
    unfold Cn.wrongF lowerS
    rw [if_neg (by simp), if_neg (by simp)]
    show (Cn.firstP 0 [⟨⟨#[108, 111, 119, 101, 114]⟩, []⟩, ⟨⟨#[]⟩, l⟩]).1 = 0
    rw [Cn.firstP, if_pos hE1, Cn.firstP, if_pos hE]; rfl
  have hply := hpl.1 _ _ _ _ _ _ _ ⟨o, hc, .inr ⟨h0, hp, rfl⟩⟩
  have hlen : x.length ≤ 4000 := by
    have h1 := hpl.2 l (t.map Cn.low)
    rw [hply] at h1
    exact h1.1
  unfold Cn.goF
  rw [if_pos hw, if_pos (Cn.zeo.2 hx)]
  by_cases hz : t = []
  · subst hz
    rw [K.zdl rfl] at hp
    simp only [Prod.mk.injEq] at hp
    obtain ⟨_, rfl, _⟩ := hp
    rfl
  · have hcut : Cn.cut (Cn.inS (lowerS l)) t = [(t, true)] := by
      have := Cn.zkk (P := Cn.inS (lowerS l)) (b := []) (fun r hr => by cases hr) hz (fun r _ => rfl)
      rw [List.append_nil] at this
      exact this
    have hp1 : Cn.passF pl ⟨⟨#[108, 111, 119, 101, 114]⟩, []⟩ t = (t.map Cn.low, 0) := by unfold Cn.passF; rw [if_neg he1, if_neg he2, if_pos he3]
    have hpf : Cn.passF pl ⟨⟨#[]⟩, l⟩ (t.map Cn.low) = (x, 0) := by unfold Cn.passF; rw [if_pos he]; exact hply
    have hth : Cn.thru pl 0 [⟨⟨#[108, 111, 119, 101, 114]⟩, []⟩, ⟨⟨#[]⟩, l⟩] t = (x, 0, 0) := by
      rw [Cn.thru, hp1, if_pos rfl, Cn.thru, hpf, if_pos rfl]; rfl
    rw [hcut]
    have hrun : Cn.runP pl (lowerS l).passes [(t, true)] [] = (x, 0, 0) := by
      show Cn.runP pl [⟨⟨#[108, 111, 119, 101, 114]⟩, []⟩, ⟨⟨#[]⟩, l⟩] [(t, true)] [] = _
      rw [Cn.runP, if_pos rfl, hth, if_pos rfl]
      rfl
    rw [hrun, if_pos rfl, if_neg (by simp; exact hlen)]
theorem go_leet {pl : Cn.Pl} (hpl : Cn.PlOk pl) {t : List Int} (ht : t.length ≤ 1000) (hR : ∀ z ∈ t, M.right z = true) : Cn.goF pl (lowerS (ltL.map r1)) t = (t.flatMap (fun r => by1 ltL (Cn.low r)), 0, 0) := by
  have hR2 : ∀ z ∈ t.map Cn.low, M.right z = true := fun z hz => by
    obtain ⟨y, hy, rfl⟩ := List.mem_map.1 hz
    exact low_right (hR y hy)
  have hl2 : (t.map Cn.low).length ≤ 1000 := by rw [List.length_map]; exact ht
  obtain ⟨s, p, hp⟩ := znp (l := ltL.map r1) (f := fun _ r _ => by1 ltL r) (m := 1) (by omega) (fun done r rest => by
    rcases which_1 done r rest ltL 0 with ⟨h1, h2⟩ | ⟨j, x, h1, h2, h3⟩
    · exact .inl ⟨h1, by unfold by1; rw [h2]; rfl⟩
    · refine .inr ⟨j, r1 x, by unfold K.which; rw [h1, Nat.zero_add], by rw [List.getElem?_map, h2]; rfl, rfl, rfl, ?_, by unfold by1; rw [h3]; rfl⟩
      have : ∀ x ∈ ltL, x.2.length ≤ 1 := by decide
      exact this x (List.mem_of_getElem? h2)) (t.map Cn.low) (8 * (t.map Cn.low).length + 40) [] 0 0 (by omega) (by simp; omega)
  rw [by_em, List.nil_append, List.flatMap_map] at hp
  exact go_low hpl (by decide +kernel) (by decide +kernel) ⟨by omega, by unfold K.allR; rw [List.all_eq_true]; exact hR⟩ ⟨by omega, by unfold K.allR; rw [List.all_eq_true]; exact hR2⟩ hp
end Go.Proofs.YtgbhkkojkpndmaaGreatDoor.Sh
