/-
  A letter taken apart, a letter and a mark: the document's answer.
-/
import Derived.Test.YtbclmmkphjknaaaNmRefP
import Derived.Deep.DeepCutAuto
import Derived.Deep.RegionHeld3
namespace Go.Proofs.Ytbclmmkphjknaaa
open Go.RowKit
set_option maxRecDepth 40000
set_option linter.unusedSimpArgs false
set_option linter.unusedVariables false

set_option maxHeartbeats 4000000 in
theorem nmJoined_any (w : World) (a b : Int) : Calls Try.prog 34 #[.int .i32 a, .int .i32 b] w fun e w' => e = .returned (.int .i32 (match Nm.join Nm.tab a b with | some p => p.2.2 | none => -1)) ∧ Below w.heap.size w w' := by
  obtain ⟨R, hR⟩ : ∃ R, R = (match Nm.join Nm.tab a b with | some p => p.2.2 | none => -1) := ⟨_, rfl⟩
  have HR : Hid (R = (match Nm.join Nm.tab a b with | some p => p.2.2 | none => -1)) := hR
  rw [← hR]
  clear hR
  go_enter Try.func34, Try.ntmps34
  go_wp2_with fail
  refine (nmRefPairs_any _).mono ?_
  rintro e wT ⟨v, rfl, hP, bT⟩
  obtain ⟨g, cap, rfl, hc⟩ := hP
  have HT : Hid (∀ (j : Nat) x, Nm.tab[j]? = some x → wT.cell? ⟨g, j * 3, none⟩ = some (.int .i32 x.1) ∧ wT.cell? ⟨g, j * 3 + 1, none⟩ = some (.int .i32 x.2.1) ∧ wT.cell? ⟨g, j * 3 + 2, none⟩ = some (.int .i32 x.2.2)) := hc
  have HBT : Hid (Below w.heap.size w wT) := bT
  clear hc bT
  rw [show Nm.tab.length = 74 from rfl]
  go_wp2
  go_loopw [9] (fun vi wr => ∃ j : Nat, vi = .int .i64 j ∧ j ≤ 74 ∧ Hid (Nm.join (Nm.tab.take j) a b = none ∧ Below wT.heap.size wT wr)) (fun vi _ => 74 - (intOf vi).toNat)
  case atStart => exact ⟨0, rfl, by omega, rfl, Below.refl _ _⟩
  case round =>
    obtain ⟨j, rfl, hj, HO⟩ := hrel
    by_cases hlt : j < 74
    · obtain ⟨x, hx⟩ : ∃ x, Nm.tab[j]? = some x := ⟨Nm.tab[j]'(show j < Nm.tab.length from hlt), by simp⟩
      obtain ⟨c0, c1, c2⟩ := HT.out j x hx
      rw [← HO.out.2.cell (p := ⟨g, j * 3, none⟩) (L.block_lt c0)] at c0
      rw [← HO.out.2.cell (p := ⟨g, j * 3 + 1, none⟩) (L.block_lt c1)] at c1
      rw [← HO.out.2.cell (p := ⟨g, j * 3 + 2, none⟩) (L.block_lt c2)] at c2
      have hst := Nm.find_step hx HO.out.1
      obtain ⟨x1, x2, x3⟩ := x
      simp only at c0 c1 c2 hst
      have HB : Hid (∀ o, Below wT.heap.size wT (wr.alloc o)) := fun o => HO.out.2.alloc (Nat.le_of_lt_succ (by have := HO.out.2.size; omega)) o
      have HBw : Hid (∀ o, Below w.heap.size w (wr.alloc o)) := fun o => HBT.out.trans ((HB.out o).mono HBT.out.size)
      by_cases h1 : x1 = a
      · subst h1
        by_cases h2 : x2 = b
        · subst h2
          have hF : Hid (R = x3) := by
            have h := hst.2 (by simp)
            show _ = _
            rw [HR.out]
            unfold Nm.join
            rw [h]
          clear hst hx HO HT HB HBT
          go_wp2
          go_ret
          exact ⟨by rw [hF.out]; rfl, HBw.out _⟩
        · have hN : Hid (Nm.join (Nm.tab.take (j + 1)) x1 b = none) := hst.1 (by simp [h2])
          clear hst hx HO HT HBw HBT
          go_wp2
          go_roundw
          case rel => exact ⟨j + 1, by go_num, by omega, hN.out, HB.out _⟩
          case measure => simp [intOf]; omega
      · have hN : Hid (Nm.join (Nm.tab.take (j + 1)) a b = none) := hst.1 (by simp [h1])
        clear hst hx HO HT HBw HBT
        go_wp2
        go_roundw
        case rel => exact ⟨j + 1, by go_num, by omega, hN.out, HB.out _⟩
        case measure => simp [intOf]; omega
    · have e : j = 74 := by omega
      subst e
      have hF : Hid (R = -1) := by
        have h := HO.out.1
        rw [show Nm.tab.take 74 = Nm.tab from rfl] at h
        show _ = _
        rw [HR.out, h]
      have HE : Hid (Below w.heap.size w wr) := HBT.out.trans (HO.out.2.mono HBT.out.size)
      clear HO HT HBT
      go_wp2
      go_ret
      exact ⟨by rw [hF.out]; rfl, HE.out⟩

namespace Nm
/-- a pair's box holds its letter and its mark -/
abbrev Bx (W : World) (b : Nat) (x1 x2 : Int) : Prop := W.cell? ⟨b, 0, none⟩ = some (.int .i32 x1) ∧ W.cell? ⟨b, 1, none⟩ = some (.int .i32 x2)
theorem Bx.alloc {W : World} {b : Nat} {x1 x2 : Int} (h : Bx W b x1 x2) (o : Obj) : Bx (W.alloc o) b x1 x2 := ⟨K.alloc_cell h.1 o, K.alloc_cell h.2 o⟩
theorem Bx.below {W W' : World} {b : Nat} {x1 x2 : Int} (h : Bx W b x1 x2) (hb : Below W.heap.size W W') : Bx W' b x1 x2 :=
  ⟨by rw [hb.cell (p := ⟨b, 0, none⟩) (L.block_lt h.1)]; exact h.1, by rw [hb.cell (p := ⟨b, 1, none⟩) (L.block_lt h.2)]; exact h.2⟩
theorem Bx.upto {W W' : World} {b : Nat} {x1 x2 : Int} (h : Bx W b x1 x2) (hb : Below (b + 1) W W') : Bx W' b x1 x2 :=
  ⟨by rw [hb.cell (p := ⟨b, 0, none⟩) (Nat.lt_succ_self b)]; exact h.1, by rw [hb.cell (p := ⟨b, 1, none⟩) (Nat.lt_succ_self b)]; exact h.2⟩
theorem below_drew {B : Nat} {w0 w : World} (b : Below B w0 w) : Below B w0 w.drew := ⟨b.os, b.tape, b.output, b.size, b.block⟩
end Nm

set_option maxHeartbeats 4000000 in
theorem nmFull1_any (r : Int) (w : World) (F : Int → List Int) (hlF : ∀ x, (F x).length ≤ 10)
    (ih : ∀ p, Nm.look Nm.tab r = some p → ∀ Y, Calls Try.prog 30 #[.int .i32 p.1] Y fun e w' => ∃ v, e = .returned v ∧ w'.ownsRow Y.heap.size 21 1 v (F p.1).length (K.ints (F p.1)) ∧ Below Y.heap.size Y w') (FL : List Int) (hFL : FL = match Nm.look Nm.tab r with | none => [r] | some p => F p.1 ++ [p.2.1]) :
    Calls Try.prog 30 #[.int .i32 r] w fun e w' => ∃ v, e = .returned v ∧ w'.ownsRow w.heap.size 21 1 v FL.length (K.ints FL) ∧ Below w.heap.size w w' := by
    have HFL : Hid (FL = match Nm.look Nm.tab r with | none => [r] | some p => F p.1 ++ [p.2.1]) := hFL
    have HIH : Hid (∀ p, Nm.look Nm.tab r = some p → ∀ Y, Calls Try.prog 30 #[.int .i32 p.1] Y fun e w' => ∃ v, e = .returned v ∧ w'.ownsRow Y.heap.size 21 1 v (F p.1).length (K.ints (F p.1)) ∧ Below Y.heap.size Y w') := ih
    have HlF : Hid (∀ x, (F x).length ≤ 10) := hlF
    clear hFL ih hlF
    go_enter Try.func30, Try.ntmps30
    go_wp2_with fail
    refine (nmRefPairs_any _).mono ?_
    rintro e wT ⟨v, rfl, hP, bT⟩
    obtain ⟨g, cap, rfl, hc⟩ := hP
    have HT : Hid (∀ (j : Nat) x, Nm.tab[j]? = some x → wT.cell? ⟨g, j * 3, none⟩ = some (.int .i32 x.1) ∧ wT.cell? ⟨g, j * 3 + 1, none⟩ = some (.int .i32 x.2.1) ∧ wT.cell? ⟨g, j * 3 + 2, none⟩ = some (.int .i32 x.2.2)) := hc
    have HBT : Hid (Below w.heap.size w wT) := bT
    clear hc bT
    rw [show Nm.tab.length = 74 from rfl]
    go_wp2
    go_loopw [7] (fun vi wr => ∃ j : Nat, vi = .int .i64 j ∧ j ≤ 74 ∧ Hid (Nm.look (Nm.tab.take j) r = none ∧ Below wT.heap.size wT wr)) (fun vi _ => 74 - (intOf vi).toNat)
    case atStart => exact ⟨0, rfl, by omega, rfl, Below.refl _ _⟩
    case round =>
      obtain ⟨j, rfl, hj, HO⟩ := hrel
      by_cases hlt : j < 74
      · obtain ⟨x, hx⟩ : ∃ x, Nm.tab[j]? = some x := ⟨Nm.tab[j]'(show j < Nm.tab.length from hlt), by simp⟩
        obtain ⟨c0, c1, c2⟩ := HT.out j x hx
        rw [← HO.out.2.cell (p := ⟨g, j * 3, none⟩) (L.block_lt c0)] at c0
        rw [← HO.out.2.cell (p := ⟨g, j * 3 + 1, none⟩) (L.block_lt c1)] at c1
        rw [← HO.out.2.cell (p := ⟨g, j * 3 + 2, none⟩) (L.block_lt c2)] at c2
        have hst := Nm.find_step (P := fun p : Nm.Pr => p.2.2 == r) hx HO.out.1
        obtain ⟨x1, x2, x3⟩ := x
        simp only at c0 c1 c2 hst
        have HB : Hid (∀ o, Below wT.heap.size wT (wr.alloc o)) := fun o => HO.out.2.alloc (by have := HO.out.2.size; omega) o
        by_cases h1 : x3 = r
        · subst h1
          have hl : Nm.look Nm.tab x3 = some (x1, x2, x3) := hst.2 (by simp)
          have hF : Hid (FL = F x1 ++ [x2]) := by
            show _ = _
            rw [HFL.out, hl]
          obtain ⟨X, hX⟩ : ∃ X, X = wr.alloc (.cells #[.int .i32 x1, .int .i32 x2, .int .i32 x3] 27) := ⟨_, rfl⟩
          have hbx : X.heap[wr.heap.size]? = some (.cells #[.int .i32 x1, .int .i32 x2, .int .i32 x3] 27) := by rw [hX]; exact heap_alloc_new wr _
          have hBX : Below w.heap.size w X := HBT.out.trans ((by rw [hX]; exact HB.out _ : Below wT.heap.size wT X).mono HBT.out.size)
          obtain ⟨bx, hbe⟩ : ∃ bx, bx = wr.heap.size := ⟨_, rfl⟩
          rw [← hbe] at hbx
          have HX : Hid (X.heap[bx]? = some (.cells #[.int .i32 x1, .int .i32 x2, .int .i32 x3] 27) ∧ Below w.heap.size w X) := ⟨hbx, hBX⟩
          have HCl : Hid (∀ Y, Calls Try.prog 30 #[.int .i32 x1] Y fun e w' => ∃ v, e = .returned v ∧ w'.ownsRow Y.heap.size 21 1 v (F x1).length (K.ints (F x1)) ∧ Below Y.heap.size Y w') := HIH.out _ hl
          have HLn : Hid ((F x1).length ≤ 10) := HlF.out x1
          generalize F x1 = o at HCl HLn hF
          have k2 : X.cell? ⟨bx, 2, none⟩ = some (.int .i32 x3) := K.at_box hbx rfl
          have HKd : Hid (Nm.Bx X.drew bx x1 x2) := ⟨K.at_box (i := 0) hbx rfl, K.at_box (i := 1) hbx rfl⟩
          have HBd : Hid (Below w.heap.size w X.drew) := Nm.below_drew hBX
          have hS1 : w.heap.size ≤ bx := by rw [hbe]; exact (HBT.out.trans (HO.out.2.mono HBT.out.size)).size
          have hS2 : bx + 1 ≤ X.drew.heap.size := lt_of_block hbx
          have HKD : Hid (∀ o, Nm.Bx (X.alloc o).drew bx x1 x2) := fun o => Nm.Bx.alloc (W := X) ⟨K.at_box (i := 0) hbx rfl, K.at_box (i := 1) hbx rfl⟩ o
          have HBD : Hid (∀ o, Below w.heap.size w (X.alloc o).drew) := fun o => Nm.below_drew (hBX.alloc hBX.size o)
          have HSD : Hid (∀ o, bx + 1 ≤ (X.alloc o).drew.heap.size) := fun o => Nat.le_trans hS2 (by show X.heap.size ≤ (X.alloc o).heap.size; simp)
          have HSz : Hid (w.heap.size ≤ bx ∧ bx + 1 ≤ X.drew.heap.size) := ⟨hS1, hS2⟩
          clear hS1 hS2
          clear hst hx HO HT HB HBT hl hbx hBX HIH HlF HFL HX
          go_upto_region 5 with fail
          rw [← hX, ← hbe]
          clear hX hbe k2 c0 c1 c2
          have HRd : Hid (L.Rd (X.alloc (.cells #[.int .i32 x2] 21)).drew (.slice (some ⟨X.heap.size, 0, none⟩) 1 1) .i32 [x2]) := Nm.rd_one X x2
          go_region_held3 (fun w' => w'.cell? ⟨bx, 0, none⟩ = some (.int .i32 x1) ∧ w'.cell? ⟨bx, 1, none⟩ = some (.int .i32 x2))
            (first | with_reducible exact HKd.out | with_reducible exact HKD.out _ | with_reducible exact q1 | with_reducible exact q1.alloc _ | with_reducible exact q3 | fail)
            (first
              | (go_at_call 30; with_reducible refine (HCl.out X.drew).mono ?_; rintro e wd1 ⟨vd1, rfl, own1, b1⟩; have q1 : Nm.Bx wd1 bx x1 x2 := HKd.out.below b1; have y1 : Below w.heap.size w wd1 := HBd.out.trans (b1.mono HBd.out.size); have z1 := L.owns_base own1 HSz.out.2; have zs : bx + 1 ≤ wd1.heap.size := Nat.le_trans HSz.out.2 b1.size; obtain ⟨ao3, vc3, w3, runA, own3, _, _, be3⟩ := Cn.app1 z1 zs (Nat.le_trans HLn.out (by decide)) x2; have hfin := And.intro (L.owns_base own3 (Nat.le_succ_of_le HSz.out.1)) (y1.trans (be3.mono (Nat.le_succ_of_le HSz.out.1))); have q3 : Nm.Bx w3 bx x1 x2 := Nm.Bx.upto q1 be3)
              | (go_at_call 30; with_reducible refine (HCl.out (X.alloc (.cells #[.int .i32 x2] 21)).drew).mono ?_; rintro e wd1 ⟨vd1, rfl, own1, b1⟩; have q1 : Nm.Bx wd1 bx x1 x2 := (HKD.out _).below b1; have y1 : Below w.heap.size w wd1 := (HBD.out _).trans (b1.mono (HBD.out _).size); have z1 := L.owns_base own1 (HSD.out _); have zs : bx + 1 ≤ wd1.heap.size := Nat.le_trans (HSD.out _) b1.size; obtain ⟨v3, w3, runB, own3, gr3, _⟩ := K.app_rd wd1 (bx + 1) vd1 o z1 _ [x2] (HRd.out.below b1 (Nat.le_refl _)) (by have := HLn.out; simp; omega) zs; have be3 : Below (bx + 1) wd1 w3 := (Below.refl _ wd1).grown gr3 zs (fun k hk => (z1.lt k hk).1); have hfin := And.intro (L.owns_base own3 (Nat.le_succ_of_le HSz.out.1)) (y1.trans (be3.mono (Nat.le_succ_of_le HSz.out.1))); have q3 : Nm.Bx w3 bx x1 x2 := Nm.Bx.upto q1 be3)
              | (have hz := runA; clear hz; refine K.step_run (by rfl) (.tmp 17) (.tmp 20) (by rfl) _ _ _ w3 (by rfl) (by rfl) runA ?_)
              | (have hz := runB; clear hz; refine K.step_run (by rfl) (.tmp 17) (.tmp 20) (by rfl) _ _ _ w3 (by rfl) (by rfl) runB ?_)
              | fail)
          all_goals
            rw [← hF.out] at hfin
            have HFin := hfin
            have HG : Hid (w3.ownsRow w.heap.size 21 1 _ FL.length (K.ints FL) ∧ Below w.heap.size w w3) := HFin
            clear HFin hfin own3 be3 q3 q1 y1 z1 zs own1 b1
            go_wp2
            go_ret
            exact ⟨_, rfl, HG.out⟩
        · have hN : Hid (Nm.look (Nm.tab.take (j + 1)) r = none) := hst.1 (by simp [h1])
          clear hst hx HO HT HBT
          go_wp2
          go_roundw
          case rel => exact ⟨j + 1, by go_num, by omega, hN.out, HB.out _⟩
          case measure => simp [intOf]; omega
      · have e : j = 74 := by omega
        subst e
        have hl : Nm.look Nm.tab r = none := by
          have h := HO.out.1
          rw [show Nm.tab.take 74 = Nm.tab from rfl] at h
          exact h
        have hF : FL = [r] := by rw [HFL.out, hl]
        have HE : Hid (Below w.heap.size w wr) := HBT.out.trans (HO.out.2.mono HBT.out.size)
        clear HO HT HBT HIH hl
        subst hF
        have HOw : Hid ((wr.alloc (.cells #[.int .i32 r] 21)).ownsRow w.heap.size 21 1 (.slice (some ⟨wr.heap.size, 0, none⟩) 1 1) 1 [.int .i32 r]) := World.ownsRow_lit wr #[.int .i32 r] 1 HE.out.size (by unfold maxLen; omega) rfl
        clear HFL HlF
        go_wp2
        go_ret
        exact ⟨_, rfl, HOw.out, HE.out.alloc HE.out.size _⟩

theorem Nm.full_len : ∀ (n : Nat) (r : Int), (Nm.full n r).length ≤ n + 1
  | 0, r => by simp [Nm.full]
  | n + 1, r => by
    rw [Nm.full]
    cases Nm.look Nm.tab r with
    | none => simp
    | some p => have := Nm.full_len n p.1; simp; omega
theorem nmFull_any : ∀ (n : Nat) (r : Int) (w : World), n ≤ 2 → Nm.deep n r → Calls Try.prog 30 #[.int .i32 r] w fun e w' => ∃ v, e = .returned v ∧ w'.ownsRow w.heap.size 21 1 v (Nm.full n r).length (K.ints (Nm.full n r)) ∧ Below w.heap.size w w'
  | 0, r, w, _, hd => nmFull1_any r w (fun _ => []) (fun _ => by simp) (fun p hp => by rw [show Nm.look Nm.tab r = none from hd] at hp; cases hp) _ (by rw [show Nm.look Nm.tab r = none from hd]; rfl)
  | n + 1, r, w, hn, hd => nmFull1_any r w (fun x => if (Nm.full n x).length ≤ 10 then Nm.full n x else []) (fun x => by split <;> simp_all) (fun p hp Y => by rw [if_pos (by have := Nm.full_len n p.1; omega)]; exact nmFull_any n p.1 Y (by omega) (hd p hp)) _ (by
      rw [Nm.full]
      cases hl : Nm.look Nm.tab r with
      | none => rfl
      | some p => simp only; rw [if_pos (by have := Nm.full_len n p.1; omega)])
end Go.Proofs.Ytbclmmkphjknaaa
