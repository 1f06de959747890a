/-
  A letter taken apart, a letter and a mark: the document's answer.
-/
import Derived.Test.YtbclmmkphjknaaaNmRefP
import Derived.Deep.DeepCutAuto
import Derived.Deep.RegionHeld3
import Derived.Test.YtbclmmkphjknaaaAlApp
namespace Go.Proofs.Ytbclmmkphjknaaa
open Go.RowKit
set_option maxRecDepth 40000
set_option linter.unusedSimpArgs false
set_option linter.unusedVariables false

set_option maxHeartbeats 4000000 in
theorem nmJoined_any (w : World) (a b : Int) : Calls Try.prog 34 #[.int .i32 a, .int .i32 b] w fun e w' => e = .returned (.int .i32 (match Nm.join Nm.tab a b with | some p => p.2.2 | none => -1)) ∧ Below w.heap.size w w' := by
  obtain ⟨R, hR⟩ : ∃ R, R = (match Nm.join Nm.tab a b with | some p => p.2.2 | none => -1) := ⟨_, rfl⟩
  have HR : Hid (R = (match Nm.join Nm.tab a b with | some p => p.2.2 | none => -1)) := hR
  rw [← hR]
  clear hR
  go_enter Try.func34, Try.ntmps34
  go_wp2_with fail
  refine (nmRefPairs_any _).mono ?_
  rintro e wT ⟨v, rfl, hP, bT⟩
  obtain ⟨g, cap, rfl, hc⟩ := hP
  have HT : Hid (∀ (j : Nat) x, Nm.tab[j]? = some x → wT.cell? ⟨g, j * 3, none⟩ = some (.int .i32 x.1) ∧ wT.cell? ⟨g, j * 3 + 1, none⟩ = some (.int .i32 x.2.1) ∧ wT.cell? ⟨g, j * 3 + 2, none⟩ = some (.int .i32 x.2.2)) := hc
  have HBT : Hid (Below w.heap.size w wT) := bT
  clear hc bT
  rw [show Nm.tab.length = 74 from rfl]
  go_wp2
  go_loopw [9] (fun vi wr => ∃ j : Nat, vi = .int .i64 j ∧ j ≤ 74 ∧ Hid (Nm.join (Nm.tab.take j) a b = none ∧ Below wT.heap.size wT wr)) (fun vi _ => 74 - (intOf vi).toNat)
  case atStart => exact ⟨0, rfl, by omega, rfl, Below.refl _ _⟩
  case round =>
    obtain ⟨j, rfl, hj, HO⟩ := hrel
    by_cases hlt : j < 74
    · obtain ⟨x, hx⟩ : ∃ x, Nm.tab[j]? = some x := ⟨Nm.tab[j]'(show j < Nm.tab.length from hlt), by simp⟩
      obtain ⟨c0, c1, c2⟩ := HT.out j x hx
      rw [← HO.out.2.cell (p := ⟨g, j * 3, none⟩) (L.block_lt c0)] at c0
      rw [← HO.out.2.cell (p := ⟨g, j * 3 + 1, none⟩) (L.block_lt c1)] at c1
      rw [← HO.out.2.cell (p := ⟨g, j * 3 + 2, none⟩) (L.block_lt c2)] at c2
      have hst := Nm.find_step hx HO.out.1
      obtain ⟨x1, x2, x3⟩ := x
      simp only at c0 c1 c2 hst
      have HB : Hid (∀ o, Below wT.heap.size wT (wr.alloc o)) := fun o => HO.out.2.alloc (Nat.le_of_lt_succ (by have := HO.out.2.size; omega)) o
      have HBw : Hid (∀ o, Below w.heap.size w (wr.alloc o)) := fun o => HBT.out.trans ((HB.out o).mono HBT.out.size)
      by_cases h1 : x1 = a
      · subst h1
        by_cases h2 : x2 = b
        · subst h2
          have hF : Hid (R = x3) := by
            have h := hst.2 (by simp)
            show _ = _
            rw [HR.out]
            unfold Nm.join
            rw [h]
          clear hst hx HO HT HB HBT
          go_wp2
          go_ret
          exact ⟨by rw [hF.out]; rfl, HBw.out _⟩
        · have hN : Hid (Nm.join (Nm.tab.take (j + 1)) x1 b = none) := hst.1 (by simp [h2])
          clear hst hx HO HT HBw HBT
          go_wp2
          go_roundw
          case rel => exact ⟨j + 1, by go_num, by omega, hN.out, HB.out _⟩
          case measure => simp [intOf]; omega
      · have hN : Hid (Nm.join (Nm.tab.take (j + 1)) a b = none) := hst.1 (by simp [h1])
        clear hst hx HO HT HBw HBT
        go_wp2
        go_roundw
        case rel => exact ⟨j + 1, by go_num, by omega, hN.out, HB.out _⟩
        case measure => simp [intOf]; omega
    · have e : j = 74 := by omega
      subst e
      have hF : Hid (R = -1) := by
        have h := HO.out.1
        rw [show Nm.tab.take 74 = Nm.tab from rfl] at h
        show _ = _
        rw [HR.out, h]
      have HE : Hid (Below w.heap.size w wr) := HBT.out.trans (HO.out.2.mono HBT.out.size)
      clear HO HT HBT
      go_wp2
      go_ret
      exact ⟨by rw [hF.out]; rfl, HE.out⟩

namespace Nm
/-- a pair's box holds its letter and its mark -/
abbrev Bx (W : World) (b : Nat) (x1 x2 : Int) : Prop := W.cell? ⟨b, 0, none⟩ = some (.int .i32 x1) ∧ W.cell? ⟨b, 1, none⟩ = some (.int .i32 x2)
theorem Bx.alloc {W : World} {b : Nat} {x1 x2 : Int} (h : Bx W b x1 x2) (o : Obj) : Bx (W.alloc o) b x1 x2 := ⟨K.alloc_cell h.1 o, K.alloc_cell h.2 o⟩
theorem Bx.below {W W' : World} {b : Nat} {x1 x2 : Int} (h : Bx W b x1 x2) (hb : Below W.heap.size W W') : Bx W' b x1 x2 :=
  ⟨by rw [hb.cell (p := ⟨b, 0, none⟩) (L.block_lt h.1)]; exact h.1, by rw [hb.cell (p := ⟨b, 1, none⟩) (L.block_lt h.2)]; exact h.2⟩
theorem Bx.upto {W W' : World} {b : Nat} {x1 x2 : Int} (h : Bx W b x1 x2) (hb : Below (b + 1) W W') : Bx W' b x1 x2 :=
  ⟨by rw [hb.cell (p := ⟨b, 0, none⟩) (Nat.lt_succ_self b)]; exact h.1, by rw [hb.cell (p := ⟨b, 1, none⟩) (Nat.lt_succ_self b)]; exact h.2⟩
theorem below_drew {B : Nat} {w0 w : World} (b : Below B w0 w) : Below B w0 w.drew := ⟨b.os, b.tape, b.output, b.size, b.block⟩
end Nm

set_option maxHeartbeats 4000000 in
theorem nmFull1_any (r : Int) (w : World) (F : Int → List Int) (hlF : ∀ x, (F x).length ≤ 10)
    (ih : ∀ p, Nm.look Nm.tab r = some p → ∀ Y, Calls Try.prog 30 #[.int .i32 p.1] Y fun e w' => ∃ v, e = .returned v ∧ w'.ownsRow Y.heap.size 21 1 v (F p.1).length (K.ints (F p.1)) ∧ Below Y.heap.size Y w') (FL : List Int) (hFL : FL = match Nm.look Nm.tab r with | none => [r] | some p => F p.1 ++ [p.2.1]) :
    Calls Try.prog 30 #[.int .i32 r] w fun e w' => ∃ v, e = .returned v ∧ w'.ownsRow w.heap.size 21 1 v FL.length (K.ints FL) ∧ Below w.heap.size w w' := by
    have HFL : Hid (FL = match Nm.look Nm.tab r with | none => [r] | some p => F p.1 ++ [p.2.1]) := hFL
    have HIH : Hid (∀ p, Nm.look Nm.tab r = some p → ∀ Y, Calls Try.prog 30 #[.int .i32 p.1] Y fun e w' => ∃ v, e = .returned v ∧ w'.ownsRow Y.heap.size 21 1 v (F p.1).length (K.ints (F p.1)) ∧ Below Y.heap.size Y w') := ih
    have HlF : Hid (∀ x, (F x).length ≤ 10) := hlF
    clear hFL ih hlF
    go_enter Try.func30, Try.ntmps30
    go_wp2_with fail
    refine (nmRefPairs_any _).mono ?_
    rintro e wT ⟨v, rfl, hP, bT⟩
    obtain ⟨g, cap, rfl, hc⟩ := hP
    have HT : Hid (∀ (j : Nat) x, Nm.tab[j]? = some x → wT.cell? ⟨g, j * 3, none⟩ = some (.int .i32 x.1) ∧ wT.cell? ⟨g, j * 3 + 1, none⟩ = some (.int .i32 x.2.1) ∧ wT.cell? ⟨g, j * 3 + 2, none⟩ = some (.int .i32 x.2.2)) := hc
    have HBT : Hid (Below w.heap.size w wT) := bT
    clear hc bT
    rw [show Nm.tab.length = 74 from rfl]
    go_wp2
    go_loopw [7] (fun vi wr => ∃ j : Nat, vi = .int .i64 j ∧ j ≤ 74 ∧ Hid (Nm.look (Nm.tab.take j) r = none ∧ Below wT.heap.size wT wr)) (fun vi _ => 74 - (intOf vi).toNat)
    case atStart => exact ⟨0, rfl, by omega, rfl, Below.refl _ _⟩
    case round =>
      obtain ⟨j, rfl, hj, HO⟩ := hrel
      by_cases hlt : j < 74
      · obtain ⟨x, hx⟩ : ∃ x, Nm.tab[j]? = some x := ⟨Nm.tab[j]'(show j < Nm.tab.length from hlt), by simp⟩
        obtain ⟨c0, c1, c2⟩ := HT.out j x hx
        rw [← HO.out.2.cell (p := ⟨g, j * 3, none⟩) (L.block_lt c0)] at c0
        rw [← HO.out.2.cell (p := ⟨g, j * 3 + 1, none⟩) (L.block_lt c1)] at c1
        rw [← HO.out.2.cell (p := ⟨g, j * 3 + 2, none⟩) (L.block_lt c2)] at c2
        have hst := Nm.find_step (P := fun p : Nm.Pr => p.2.2 == r) hx HO.out.1
        obtain ⟨x1, x2, x3⟩ := x
        simp only at c0 c1 c2 hst
        have HB : Hid (∀ o, Below wT.heap.size wT (wr.alloc o)) := fun o => HO.out.2.alloc (by have := HO.out.2.size; omega) o
        by_cases h1 : x3 = r
        · subst h1
          have hl : Nm.look Nm.tab x3 = some (x1, x2, x3) := hst.2 (by simp)
          have hF : Hid (FL = F x1 ++ [x2]) := by
            show _ = _
            rw [HFL.out, hl]
          obtain ⟨X, hX⟩ : ∃ X, X = wr.alloc (.cells #[.int .i32 x1, .int .i32 x2, .int .i32 x3] 27) := ⟨_, rfl⟩
          have hbx : X.heap[wr.heap.size]? = some (.cells #[.int .i32 x1, .int .i32 x2, .int .i32 x3] 27) := by rw [hX]; exact heap_alloc_new wr _
          have hBX : Below w.heap.size w X := HBT.out.trans ((by rw [hX]; exact HB.out _ : Below wT.heap.size wT X).mono HBT.out.size)
          obtain ⟨bx, hbe⟩ : ∃ bx, bx = wr.heap.size := ⟨_, rfl⟩
          rw [← hbe] at hbx
          have HX : Hid (X.heap[bx]? = some (.cells #[.int .i32 x1, .int .i32 x2, .int .i32 x3] 27) ∧ Below w.heap.size w X) := ⟨hbx, hBX⟩
          have HCl : Hid (∀ Y, Calls Try.prog 30 #[.int .i32 x1] Y fun e w' => ∃ v, e = .returned v ∧ w'.ownsRow Y.heap.size 21 1 v (F x1).length (K.ints (F x1)) ∧ Below Y.heap.size Y w') := HIH.out _ hl
          have HLn : Hid ((F x1).length ≤ 10) := HlF.out x1
          generalize F x1 = o at HCl HLn hF
          have k2 : X.cell? ⟨bx, 2, none⟩ = some (.int .i32 x3) := K.at_box hbx rfl
          have HKd : Hid (Nm.Bx X.drew bx x1 x2) := ⟨K.at_box (i := 0) hbx rfl, K.at_box (i := 1) hbx rfl⟩
          have HBd : Hid (Below w.heap.size w X.drew) := Nm.below_drew hBX
          have hS1 : w.heap.size ≤ bx := by rw [hbe]; exact (HBT.out.trans (HO.out.2.mono HBT.out.size)).size
          have hS2 : bx + 1 ≤ X.drew.heap.size := lt_of_block hbx
          have HKD : Hid (∀ o, Nm.Bx (X.alloc o).drew bx x1 x2) := fun o => Nm.Bx.alloc (W := X) ⟨K.at_box (i := 0) hbx rfl, K.at_box (i := 1) hbx rfl⟩ o
          have HBD : Hid (∀ o, Below w.heap.size w (X.alloc o).drew) := fun o => Nm.below_drew (hBX.alloc hBX.size o)
          have HSD : Hid (∀ o, bx + 1 ≤ (X.alloc o).drew.heap.size) := fun o => Nat.le_trans hS2 (by show X.heap.size ≤ (X.alloc o).heap.size; simp)
          have HSz : Hid (w.heap.size ≤ bx ∧ bx + 1 ≤ X.drew.heap.size) := ⟨hS1, hS2⟩
          clear hS1 hS2
          clear hst hx HO HT HB HBT hl hbx hBX HIH HlF HFL HX
          go_upto_region 5 with fail
          rw [← hX, ← hbe]
          clear hX hbe k2 c0 c1 c2
          have HRd : Hid (L.Rd (X.alloc (.cells #[.int .i32 x2] 21)).drew (.slice (some ⟨X.heap.size, 0, none⟩) 1 1) .i32 [x2]) := Nm.rd_one X x2
          go_region_held3 (fun w' => w'.cell? ⟨bx, 0, none⟩ = some (.int .i32 x1) ∧ w'.cell? ⟨bx, 1, none⟩ = some (.int .i32 x2))
            (first | with_reducible exact HKd.out | with_reducible exact HKD.out _ | with_reducible exact q1 | with_reducible exact q1.alloc _ | with_reducible exact q3 | fail)
            (first
              | (go_at_call 30; with_reducible refine (HCl.out X.drew).mono ?_; rintro e wd1 ⟨vd1, rfl, own1, b1⟩; have q1 : Nm.Bx wd1 bx x1 x2 := HKd.out.below b1; have y1 : Below w.heap.size w wd1 := HBd.out.trans (b1.mono HBd.out.size); have z1 := L.owns_base own1 HSz.out.2; have zs : bx + 1 ≤ wd1.heap.size := Nat.le_trans HSz.out.2 b1.size; obtain ⟨ao3, vc3, w3, runA, own3, _, _, be3⟩ := Cn.app1 z1 zs (Nat.le_trans HLn.out (by decide)) x2; have hfin := And.intro (L.owns_base own3 (Nat.le_succ_of_le HSz.out.1)) (y1.trans (be3.mono (Nat.le_succ_of_le HSz.out.1))); have q3 : Nm.Bx w3 bx x1 x2 := Nm.Bx.upto q1 be3)
              | (go_at_call 30; with_reducible refine (HCl.out (X.alloc (.cells #[.int .i32 x2] 21)).drew).mono ?_; rintro e wd1 ⟨vd1, rfl, own1, b1⟩; have q1 : Nm.Bx wd1 bx x1 x2 := (HKD.out _).below b1; have y1 : Below w.heap.size w wd1 := (HBD.out _).trans (b1.mono (HBD.out _).size); have z1 := L.owns_base own1 (HSD.out _); have zs : bx + 1 ≤ wd1.heap.size := Nat.le_trans (HSD.out _) b1.size; obtain ⟨v3, w3, runB, own3, gr3, _⟩ := K.app_rd wd1 (bx + 1) vd1 o z1 _ [x2] (HRd.out.below b1 (Nat.le_refl _)) (by have := HLn.out; simp; omega) zs; have be3 : Below (bx + 1) wd1 w3 := (Below.refl _ wd1).grown gr3 zs (fun k hk => (z1.lt k hk).1); have hfin := And.intro (L.owns_base own3 (Nat.le_succ_of_le HSz.out.1)) (y1.trans (be3.mono (Nat.le_succ_of_le HSz.out.1))); have q3 : Nm.Bx w3 bx x1 x2 := Nm.Bx.upto q1 be3)
              | (have hz := runA; clear hz; refine K.step_run (by rfl) (.tmp 17) (.tmp 20) (by rfl) _ _ _ w3 (by rfl) (by rfl) runA ?_)
              | (have hz := runB; clear hz; refine K.step_run (by rfl) (.tmp 17) (.tmp 20) (by rfl) _ _ _ w3 (by rfl) (by rfl) runB ?_)
              | fail)
          all_goals
            rw [← hF.out] at hfin
            have HFin := hfin
            have HG : Hid (w3.ownsRow w.heap.size 21 1 _ FL.length (K.ints FL) ∧ Below w.heap.size w w3) := HFin
            clear HFin hfin own3 be3 q3 q1 y1 z1 zs own1 b1
            go_wp2
            go_ret
            exact ⟨_, rfl, HG.out⟩
        · have hN : Hid (Nm.look (Nm.tab.take (j + 1)) r = none) := hst.1 (by simp [h1])
          clear hst hx HO HT HBT
          go_wp2
          go_roundw
          case rel => exact ⟨j + 1, by go_num, by omega, hN.out, HB.out _⟩
          case measure => simp [intOf]; omega
      · have e : j = 74 := by omega
        subst e
        have hl : Nm.look Nm.tab r = none := by
          have h := HO.out.1
          rw [show Nm.tab.take 74 = Nm.tab from rfl] at h
          exact h
        have hF : FL = [r] := by rw [HFL.out, hl]
        have HE : Hid (Below w.heap.size w wr) := HBT.out.trans (HO.out.2.mono HBT.out.size)
        clear HO HT HBT HIH hl
        subst hF
        have HOw : Hid ((wr.alloc (.cells #[.int .i32 r] 21)).ownsRow w.heap.size 21 1 (.slice (some ⟨wr.heap.size, 0, none⟩) 1 1) 1 [.int .i32 r]) := World.ownsRow_lit wr #[.int .i32 r] 1 HE.out.size (by unfold maxLen; omega) rfl
        clear HFL HlF
        go_wp2
        go_ret
        exact ⟨_, rfl, HOw.out, HE.out.alloc HE.out.size _⟩

theorem Nm.full_len : ∀ (n : Nat) (r : Int), (Nm.full n r).length ≤ n + 1
  | 0, r => by simp [Nm.full]
  | n + 1, r => by
    rw [Nm.full]
    cases Nm.look Nm.tab r with
    | none => simp
    | some p => have := Nm.full_len n p.1; simp; omega
theorem nmFull_any : ∀ (n : Nat) (r : Int) (w : World), n ≤ 2 → Nm.deep n r → Calls Try.prog 30 #[.int .i32 r] w fun e w' => ∃ v, e = .returned v ∧ w'.ownsRow w.heap.size 21 1 v (Nm.full n r).length (K.ints (Nm.full n r)) ∧ Below w.heap.size w w'
  | 0, r, w, _, hd => nmFull1_any r w (fun _ => []) (fun _ => by simp) (fun p hp => by rw [show Nm.look Nm.tab r = none from hd] at hp; cases hp) _ (by rw [show Nm.look Nm.tab r = none from hd]; rfl)
  | n + 1, r, w, hn, hd => nmFull1_any r w (fun x => if (Nm.full n x).length ≤ 10 then Nm.full n x else []) (fun x => by split <;> simp_all) (fun p hp Y => by rw [if_pos (by have := Nm.full_len n p.1; omega)]; exact nmFull_any n p.1 Y (by omega) (hd p hp)) _ (by
      rw [Nm.full]
      cases hl : Nm.look Nm.tab r with
      | none => rfl
      | some p => simp only; rw [if_pos (by have := Nm.full_len n p.1; omega)])
end Go.Proofs.Ytbclmmkphjknaaa

/-
  Rows that are being made, one more: where it lies, too; three rows of numbers beside one another.
-/
namespace Go.Proofs.Ytbclmmkphjknaaa
open Go.RowKit Go.Shelf
set_option maxRecDepth 20000
set_option linter.unusedSimpArgs false
set_option linter.unusedVariables false

theorem Try.infoInt : (Try.prog.info? 3).map (fun i => (i.zero, i.size, i.bytes)) = some (some (.int .i64 0), 1, 8) := by kernel_rfl

namespace Od
/-- append(out, x) -/
theorem app {sl e : TypeId} {z : Value} {k y : Nat} (hs : Try.prog.underlying sl = some (.slice e)) (hinfo : (Try.prog.info? e).map (fun i => (i.zero, i.size, i.bytes)) = some (some z, k, y)) (hzk : z.cells.size = k) (hk : 0 < k) (hy : y ≤ 100)
    {w : World} {B n : Nat} {vo : Value} {xs : List Value} (own : w.ownsRow B e k vo n xs) (hB : B ≤ w.heap.size) (hl : n ≤ 1000000) (news : List Value) (hn : news.length = k) (h1 : ∀ u ∈ news, u.oneCell' = true) :
    ∃ ao' vc' w', (∀ ty, (Builtin.append_ #[sl, sl] ty #[vo, .slice (some ⟨w.heap.size, 0, none⟩) 1 1]).run Try.prog (w.alloc (.cells news.toArray e)) = .ok (.slice ao' (n + 1) vc') w') ∧ w'.ownsRow B e k (.slice ao' (n + 1) vc') (n + 1) (xs ++ news) ∧ (∀ b, b < w.heap.size → vo.ownBlock ≠ some b → w'.heap[b]? = w.heap[b]?) ∧ w.heap.size ≤ w'.heap.size ∧ Below B w w' ∧ ((Value.slice ao' (n + 1) vc').ownBlock = vo.ownBlock ∨ ∃ q, (Value.slice ao' (n + 1) vc').ownBlock = some q ∧ w.heap.size ≤ q) := by
  have hal : Below w.heap.size w (w.alloc (.cells news.toArray e)) := (Below.refl _ w).alloc (Nat.le_refl _) _
  have hnew := heap_alloc_new w (.cells news.toArray e)
  obtain ⟨i0, hi, hz0, hz1, hz2⟩ := info_parts hinfo
  have hcells : ∀ j u, news[j]? = some u → (w.alloc (.cells news.toArray e)).cell? ((⟨w.heap.size, 0, none⟩ : Addr).add j) = some u := fun j u hj => by
    rw [L.addr_add, Nat.zero_add]
    exact K.at_box hnew (by simpa using hj)
  have hyb : (n + 1) * y ≤ 140737488355328 := Nat.le_trans (Nat.mul_le_mul (Nat.succ_le_succ hl) hy) (by decide)
  have hw1 : (w.alloc (.cells news.toArray e)).heap.size = w.heap.size + 1 := by simp
  have fin : ∀ (v' : Value) (w' : World), (∀ ty, (Builtin.append_ #[sl, sl] ty #[vo, .slice (some ⟨w.heap.size, 0, none⟩) 1 1]).run Try.prog (w.alloc (.cells news.toArray e)) = .ok v' w') → w'.ownsRow B e k v' (n + 1) (xs ++ news) → (w.alloc (.cells news.toArray e)).grownBy w' vo.ownBlock → (v'.ownBlock = vo.ownBlock ∨ ∃ q, v'.ownBlock = some q ∧ w.heap.size ≤ q) → ∃ ao' vc' w', (∀ ty, (Builtin.append_ #[sl, sl] ty #[vo, .slice (some ⟨w.heap.size, 0, none⟩) 1 1]).run Try.prog (w.alloc (.cells news.toArray e)) = .ok (.slice ao' (n + 1) vc') w') ∧ w'.ownsRow B e k (.slice ao' (n + 1) vc') (n + 1) (xs ++ news) ∧ (∀ b, b < w.heap.size → vo.ownBlock ≠ some b → w'.heap[b]? = w.heap[b]?) ∧ w.heap.size ≤ w'.heap.size ∧ Below B w w' ∧ ((Value.slice ao' (n + 1) vc').ownBlock = vo.ownBlock ∨ ∃ q, (Value.slice ao' (n + 1) vc').ownBlock = some q ∧ w.heap.size ≤ q) := by
    intro v' w' run own' gr hd
    obtain ⟨ao', vc', rfl⟩ : ∃ ao cap, v' = .slice ao (n + 1) cap := by
      rcases own'.2 with ⟨hv, h0⟩ | ⟨g, cap, cur, hv, _⟩
      · omega
      · exact ⟨_, cap, hv⟩
    refine ⟨ao', vc', w', run, own', fun b hb hne => ?_, ?_, (hal.mono hB).grown gr (by simp; omega) fun k hk => (own.lt k hk).1, hd⟩
    · rw [gr.block b (by simp; omega) (fun e => hne e.symm)]
      exact hal.block b hb
    · have := gr.size
      simp at this
      omega
  have blk : ∀ (v' : Value) (w' : World) (G : Nat), w'.ownsRow G e k v' (n + 1) (xs ++ news) → w.heap.size ≤ G → ∃ q, v'.ownBlock = some q ∧ w.heap.size ≤ q := fun v' w' G h hG => by
    rcases h.2 with ⟨_, h1⟩ | ⟨g, cap, cur, h, hg, _⟩
    · omega
    · exact ⟨g, by rw [h]; rfl, by omega⟩
  rcases own.2 with ⟨hv, h0⟩ | ⟨g, cap, cur, hv, hBg, hg, hnc, hcm, hcs, htk⟩
  · subst h0 hv
    have hx : xs = [] := List.eq_nil_of_length_eq_zero (by have := own.1; omega)
    subst hx
    obtain ⟨v', w', hrun, r1, r2, _⟩ := run_append_own (P := Try.prog) (w.alloc (.cells news.toArray e)) w.heap.size sl sl e i0 _ k y hs hi hz0 hz1 hz2 hzk hk (.slice none 0 0) 0 [] (World.ownsRow_nil _ _ _ _) ⟨w.heap.size, 0, none⟩ 1 1 news (by rw [hn]; omega) hcells h1 (by unfold maxLen; omega) hyb (by simp)
    exact fin v' w' (fun ty => hrun) (L.owns_base r1 hB) r2 (.inr (blk v' w' _ r1 (Nat.le_refl _)))
  · subst hv
    by_cases hf : n + 1 ≤ cap
    · obtain ⟨w', hrun, r1, r2⟩ := run_append_fits (P := Try.prog) (w.alloc (.cells news.toArray e)) B sl sl e i0 k hs hi hz1 g n cap xs (own.alloc _) ⟨w.heap.size, 0, none⟩ 1 1 news (by rw [hn]; omega) hcells h1 hf
      exact fin _ w' (fun ty => hrun) r1 r2 (.inl rfl)
    · obtain ⟨v', w', hrun, r1, r2⟩ := run_append_arg_grows (P := Try.prog) (w.alloc (.cells news.toArray e)) sl sl e i0 _ k y hs hi hz0 hz1 hz2 hzk hk ⟨g, 0, none⟩ n cap xs (by have := own.1; omega) (fun j u hj => World.ownsRow.cells (own.alloc _) (g := g) rfl j u hj) ⟨w.heap.size, 0, none⟩ 1 1 news (by rw [hn]; omega) hcells (by omega) (by unfold maxLen; omega) hyb
      exact fin v' w' (fun ty => hrun) (L.owns_base r1 (by omega)) ⟨r2.os, r2.tape, r2.output, r2.size, fun k hk _ => r2.block k hk (by simp)⟩ (.inr (blk v' w' _ r1 (by omega)))
abbrev longs (l : List Int) : List Value := l.map (Value.int .i64)
/-- a row of numbers, of one's own -/
abbrev Ow (w : World) (F : Nat) (v : Value) (l : List Int) : Prop := w.ownsRow F 3 1 v l.length (longs l)
theorem Ow.rd {w : World} {F : Nat} {v : Value} {l : List Int} (h : Ow w F v l) : L.Rd w v .i64 l := L.Rd.of_owns h
/-- two values lie apart -/
def Apt (a b : Value) : Prop := ∀ q, a.ownBlock = some q → b.ownBlock ≠ some q
theorem Apt.symm {a b : Value} (h : Apt a b) : Apt b a := fun q h1 h2 => h q h2 h1
theorem apt_nil (b : Value) : Apt (.slice none 0 0) b := fun q h => by cases h
/-- one number more: what lies apart stays, and lies apart -/
theorem push {w : World} {F : Nat} {v : Value} {l : List Int} (own : Ow w F v l) (hF : F ≤ w.heap.size) (hl : l.length ≤ 100000) (z : Int) :
    ∃ v' w', (∀ ty, (Builtin.append_ #[34, 34] ty #[v, .slice (some ⟨w.heap.size, 0, none⟩) 1 1]).run Try.prog (w.alloc (.cells #[.int .i64 z] 3)) = .ok v' w') ∧ Ow w' F v' (l ++ [z]) ∧ Below F w w' ∧ (∀ b, b < w.heap.size → v.ownBlock ≠ some b → w'.heap[b]? = w.heap[b]?) ∧ w.heap.size ≤ w'.heap.size ∧ (∀ (u : Value) (e : TypeId) (k n : Nat) (xs : List Value) (G : Nat), w.ownsRow G e k u n xs → Apt v u → w'.ownsRow G e k u n xs ∧ Apt v' u) := by
  obtain ⟨ao, cap, w', run, own', kp, sz, be, nw⟩ := app (sl := 34) Try.underlying34 Try.infoInt rfl (by decide) (by decide) own hF (by omega) [.int .i64 z] rfl (fun u hu => by simp at hu; subst hu; rfl)
  refine ⟨_, w', run, ?_, be, kp, sz, fun u e k n xs G hu ha => ⟨Al.held hu fun q hq hlt => kp q hlt fun h => ha q h hq, fun q h1 h2 => ?_⟩⟩
  · unfold Ow longs
    rw [List.map_append, List.length_append]
    exact own'
  · rcases nw with h | ⟨p, h, hp⟩
    · exact ha q (h.symm.trans h1) h2
    · rw [h] at h1
      have := (hu.lt q h2).2
      have := Option.some.inj h1
      omega
/-- three rows beside one another -/
structure Tri (w : World) (F : Nat) (a b c : Value) (k : List Int × List Int × List Int) : Prop where
  o1 : Ow w F a k.1
  o2 : Ow w F b k.2.1
  o3 : Ow w F c k.2.2
  a12 : Apt a b
  a13 : Apt a c
  a23 : Apt b c
theorem Tri.start (w : World) (F : Nat) : Tri w F (.slice none 0 0) (.slice none 0 0) (.slice none 0 0) ([], [], []) := ⟨World.ownsRow_nil _ _ _ _, World.ownsRow_nil _ _ _ _, World.ownsRow_nil _ _ _ _, apt_nil _, apt_nil _, apt_nil _⟩
theorem Tri.push1 {w : World} {F : Nat} {a b c : Value} {k : List Int × List Int × List Int} (h : Tri w F a b c k) (hF : F ≤ w.heap.size) (hl : k.1.length ≤ 100000) (z : Int) :
    ∃ v' w', (∀ ty, (Builtin.append_ #[34, 34] ty #[a, .slice (some ⟨w.heap.size, 0, none⟩) 1 1]).run Try.prog (w.alloc (.cells #[.int .i64 z] 3)) = .ok v' w') ∧ Tri w' F v' b c (k.1 ++ [z], k.2.1, k.2.2) ∧ Below F w w' ∧ w.heap.size ≤ w'.heap.size := by
  obtain ⟨v', w', run, own, be, _, sz, kp⟩ := push h.o1 hF hl z
  obtain ⟨p1, p2⟩ := kp b _ _ _ _ _ h.o2 h.a12
  obtain ⟨q1, q2⟩ := kp c _ _ _ _ _ h.o3 h.a13
  exact ⟨v', w', run, ⟨own, p1, q1, p2, q2, h.a23⟩, be, sz⟩
theorem Tri.push2 {w : World} {F : Nat} {a b c : Value} {k : List Int × List Int × List Int} (h : Tri w F a b c k) (hF : F ≤ w.heap.size) (hl : k.2.1.length ≤ 100000) (z : Int) :
    ∃ v' w', (∀ ty, (Builtin.append_ #[34, 34] ty #[b, .slice (some ⟨w.heap.size, 0, none⟩) 1 1]).run Try.prog (w.alloc (.cells #[.int .i64 z] 3)) = .ok v' w') ∧ Tri w' F a v' c (k.1, k.2.1 ++ [z], k.2.2) ∧ Below F w w' ∧ w.heap.size ≤ w'.heap.size := by
  obtain ⟨v', w', run, own, be, _, sz, kp⟩ := push h.o2 hF hl z
  obtain ⟨p1, p2⟩ := kp a _ _ _ _ _ h.o1 h.a12.symm
  obtain ⟨q1, q2⟩ := kp c _ _ _ _ _ h.o3 h.a23
  exact ⟨v', w', run, ⟨p1, own, q1, p2.symm, h.a13, q2⟩, be, sz⟩
theorem Tri.push3 {w : World} {F : Nat} {a b c : Value} {k : List Int × List Int × List Int} (h : Tri w F a b c k) (hF : F ≤ w.heap.size) (hl : k.2.2.length ≤ 100000) (z : Int) :
    ∃ v' w', (∀ ty, (Builtin.append_ #[34, 34] ty #[c, .slice (some ⟨w.heap.size, 0, none⟩) 1 1]).run Try.prog (w.alloc (.cells #[.int .i64 z] 3)) = .ok v' w') ∧ Tri w' F a b v' (k.1, k.2.1, k.2.2 ++ [z]) ∧ Below F w w' ∧ w.heap.size ≤ w'.heap.size := by
  obtain ⟨v', w', run, own, be, _, sz, kp⟩ := push h.o3 hF hl z
  obtain ⟨p1, p2⟩ := kp a _ _ _ _ _ h.o1 h.a13.symm
  obtain ⟨q1, q2⟩ := kp b _ _ _ _ _ h.o2 h.a23.symm
  exact ⟨v', w', run, ⟨p1, q1, own, h.a12, p2.symm, q2.symm⟩, be, sz⟩
theorem Tri.base {w : World} {F G : Nat} {a b c : Value} {k : List Int × List Int × List Int} (h : Tri w F a b c k) (hG : G ≤ F) : Tri w G a b c k := ⟨L.owns_base h.o1 hG, L.owns_base h.o2 hG, L.owns_base h.o3 hG, h.a12, h.a13, h.a23⟩
theorem Tri.below {w w' : World} {F : Nat} {a b c : Value} {k : List Int × List Int × List Int} (h : Tri w F a b c k) (hb : Below w.heap.size w w') : Tri w' F a b c k :=
  ⟨L.owns_below h.o1 hb (Nat.le_refl _), L.owns_below h.o2 hb (Nat.le_refl _), L.owns_below h.o3 hb (Nat.le_refl _), h.a12, h.a13, h.a23⟩
end Od
end Go.Proofs.Ytbclmmkphjknaaa
