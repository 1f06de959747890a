/-
  The statement SetsForm of chapter 2, walked call by call.
-/
import Derived.Test.YtginejblmkiamaaSSteps
import Derived.Test.YtginejblmkiamaaSEdge1
import Derived.Deep.AppendLies
namespace Go.Proofs.Ytginejblmkiamaa
open Go.RowKit

attribute [local go_sem ↓] Go.wp_at_zero Go.wp_at_succ

/-- append at a step of a region that draws its order -/
theorem step_append_o {P : Program} {w : World} {ops : Array Oper} {o : Oper} {a : Act} {K : Act → World → Prop} {Q : Exit → Act → World → Prop} {E : Prop} (hgd : o.guard = none) (s x : Operand) (t : TypeId)
    (ho : o.op = .call { callee := .builtin .append, args := #[s, x], argTypes := #[t, t] })
    (base : Nat) (e : TypeId) (i : TypeInfo) (z : Value) (size bytes : Nat) (ht : P.underlying t = some (.slice e)) (hi : P.info? e = some i) (hz : i.zero = some z)
    (hsize : i.size = size) (hby : i.bytes = bytes) (hzs : z.cells.size = size) (hsz : 0 < size)
    (v : Value) (n : Nat) (xs : List Value) (hs : a.eval s = v) (hown : w.ownsRow base e size v n xs)
    (ad : Addr) (m c : Nat) (news : List Value) (hx : a.eval x = .slice (some ad) m c) (hl : news.length = m * size) (hnews : ∀ j u, news[j]? = some u → w.cell? (ad.add j) = some u) (h1 : ∀ u ∈ news, u.oneCell' = true)
    (h63 : n + m ≤ maxLen) (hbytes : (n + m) * bytes ≤ 140737488355328) (hbase : base ≤ w.heap.size)
    (h : ∀ v' w', w'.ownsRow base e size v' (n + m) (xs ++ news) → w.grownBy w' v.ownBlock → K (a.put o.dst v') w') :
    if Region.wanted o (yielded ops a.tmps) = true then Oper.wp P o a w K Q else E := by
  have hw : Region.wanted o (yielded ops a.tmps) = true := by simp [Region.wanted, hgd]
  rw [if_pos hw]
  exact wp_append_own w s x t ho base e i z size bytes ht hi hz hsize hby hzs hsz v n xs hs hown ad m c news hx hl hnews h1 h63 hbytes hbase fun v' w' h2 h3 _ => h v' w' h2 h3

theorem memb_rev (l : List S.Sp) (q : Int) : S.memb l.reverse q = S.memb l q := by
  apply S.bool_eq; rw [S.memb_iff, S.memb_iff]; simp
theorem memb_cut {l : List S.Sp} {x1 x2 : Int} (hx : (x1, x2) ∈ l) (h : x1 < x2) (q : Int) : S.memb (l.reverse ++ [(x1, x1), (x1 + 1, x2)]) q = S.memb l q := by
  rw [S.memb_append, memb_rev]
  apply S.bool_eq
  rw [Bool.or_eq_true]
  constructor
  · rintro (h1 | h1)
    · exact h1
    · obtain ⟨y, hy, h2, h3⟩ := S.memb_iff.1 h1
      simp at hy
      refine S.memb_iff.2 ⟨_, hx, ?_⟩
      rcases hy with rfl | rfl <;> simp only at h2 h3 ⊢ <;> omega
  · exact .inl
theorem bad_cut {l : List S.Sp} {x1 x2 : Int} (hb : l.any S.bad = false) (hx : (x1, x2) ∈ l) (h : x1 < x2) : (l.reverse ++ [(x1, x1), (x1 + 1, x2)]).any S.bad = false := by
  have h0 := (List.any_eq_false.1 hb) _ hx
  have h1 : S.bad (x1, x2) = false := by simpa using h0
  have h2 := S.bad_false.1 h1
  simp only at h2
  rw [List.any_append, List.any_reverse, hb]
  have e1 : S.bad (x1, x1) = false := S.bad_false.2 ⟨by simp only; omega, by simp only; omega, by simp only; omega⟩
  have e2 : S.bad (x1 + 1, x2) = false := S.bad_false.2 ⟨by simp only; omega, by simp only; omega, by simp only; omega⟩
  simp [e1, e2]

theorem cell_heap {w w' : World} (hh : w'.heap = w.heap) (a : Addr) : w'.cell? a = w.cell? a := World.cell?_of_block (by rw [hh])
theorem four_new {w w' : World} {a b c d : Value} {t : TypeId} (hh : w'.heap = (w.alloc (.cells #[a, b, c, d] t)).heap) (bl : Nat) (hb : bl = w.heap.size) (j : Nat) (u : Value) (h : [a, b, c, d][j]? = some u) : w'.cell? ((⟨bl, 0, none⟩ : Addr).add j) = some u := by
  subst hb
  rw [L.addr_add, cell_heap hh]
  match j, h with
  | 0, h => simp at h; subst h; rw [World.cell?_alloc_at _ _ _ _ (by simp)]; rfl
  | 1, h => simp at h; subst h; rw [World.cell?_alloc_at _ _ _ _ (by simp)]; rfl
  | 2, h => simp at h; subst h; rw [World.cell?_alloc_at _ _ _ _ (by simp)]; rfl
  | 3, h => simp at h; subst h; rw [World.cell?_alloc_at _ _ _ _ (by simp)]; rfl
  | j + 4, h => simp at h
theorem owns_heap {w w' : World} {base : Nat} {e : TypeId} {size : Nat} {v : Value} {n : Nat} {xs : List Value} (h : w.ownsRow base e size v n xs) (hh : w'.heap = w.heap) : w'.ownsRow base e size v n xs := by
  obtain ⟨h1, h2⟩ := h
  refine ⟨h1, ?_⟩
  rcases h2 with h2 | ⟨g, cap, cur, hv, hg, hx, r⟩
  · exact .inl h2
  · exact .inr ⟨g, cap, cur, hv, hg, by rw [hh]; exact hx, r⟩

set_option maxHeartbeats 4000000 in
set_option maxRecDepth 100000 in
theorem form_law (w : World) (v : Value) (l : List S.Sp) (at_ : Int) (R : S.Rd w v l) (F : S.Fit l) (hl : l.length ≤ 17592186043904) :
    Calls Try.prog 6 #[v, .int .i64 at_] w fun e w' => e = .returned (.bool true) ∧ Below w.heap.size w w' := by
  have HR : Hid (S.Rd w v l) := R
  obtain ⟨aa, ca, rfl, hn, hc⟩ := R
  obtain ⟨i0, hi, hz0, hz1, hz2⟩ := info_parts Try.infoSp
  have HC : Hid _ := hc
  clear hc
  go_enter Try.func6, Try.ntmps6
  go_wp2_with fail
  refine (alive_any w).mono ?_
  rintro e W0 ⟨rfl, b0⟩
  have HB0 : Hid (Below w.heap.size w W0) := b0
  clear b0
  have hof := of_any W0 _ l (HR.out.below HB0.out (Nat.le_refl _)) (by omega)
  go_wp2_with fail
  refine hof.mono ?_
  clear hof
  rintro e W1 ⟨v1, rfl, r1, b1, hex⟩
  have HB1 : Hid (Below w.heap.size w W1) := HB0.out.trans (b1.mono HB0.out.size)
  clear b1
  cases hbad : l.any S.bad with
  | true =>
    rw [hbad] at r1
    simp only [if_true]
    rw [show S.resE 3 0 (S.memb l) = 3 by unfold S.resE; simp]
    rw [if_pos rfl, show S.resL 3 0 (S.memb l) = [] by unfold S.resL; simp] at r1
    obtain ⟨a1, c1, rfl⟩ := r1.len
    clear r1 hex hbad
    go_wp2
    go_ret
    exact ⟨rfl, HB1.out⟩
  | false =>
    have HBAD : Hid (l.any S.bad = false) := hbad
    rw [hbad] at r1 hex
    simp only [Bool.false_eq_true, if_false] at r1 hex ⊢
    clear hbad
    have his := S.nf_is (hex trivial trivial)
    clear hex
    by_cases hmany : 200 < (S.nf (S.memb l)).length
    · rw [show S.resE 0 0 (S.memb l) = 5 by unfold S.resE S.fewE; simp [hmany]]
      rw [show S.resL 0 0 (S.memb l) = [] by unfold S.resL S.fewL; simp [hmany]] at r1
      obtain ⟨a1, c1, rfl⟩ := r1.len
      clear r1 his hmany
      go_wp2
      go_ret
      exact ⟨rfl, HB1.out⟩
    · have hle : (S.nf (S.memb l)).length ≤ 200 := by omega
      rw [S.resE_ok hle]
      rw [S.resL_ok hle] at r1
      generalize hs0 : S.nf (S.memb l) = s0 at *
      have HS0 : Hid (S.nf (S.memb l) = s0) := hs0
      have HIS : Hid (S.Is (S.memb l) s0) := his
      have hok : Ok s0 200 := ⟨his.1, hle⟩
      obtain ⟨a1, c1, rfl⟩ := r1.len
      have R1 : Hid (S.Rd W1 (.slice a1 s0.length c1) s0) := r1
      clear r1 hs0 his hmany
      have hwr := wrong_any W1 _ s0 R1.out hok.fit
      rw [hok.wrong (by decide)] at hwr
      go_wp2_with fail
      refine hwr.mono ?_
      clear hwr
      rintro e W2 ⟨rfl, b2⟩
      have HB2 : Hid (Below w.heap.size w W2) := HB1.out.trans (b2.mono HB1.out.size)
      have R2 : Hid (S.Rd W2 (.slice a1 s0.length c1) s0) := R1.out.below b2 (Nat.le_refl _)
      clear b2 R1
      have hno : s0.any S.bad = false := by
        rw [List.any_eq_false]
        intro x hx
        have := S.bad_false.2 (HIS.out.1.mem hx)
        simp [this]
      have hof := of_any W2 _ s0 R2.out (by omega)
      rw [hno] at hof
      simp only [Bool.false_eq_true, if_false] at hof
      have hnf : S.nf (S.memb s0) = s0 := S.nf_eq (S.Is.of_nf HIS.out.1)
      clear hno
      go_wp2_with fail
      refine hof.mono ?_
      clear hof
      rintro e W3 ⟨v3, rfl, r3, b3, _⟩
      rw [S.resE_ok (by rw [hnf]; exact hle)]
      rw [S.resL_ok (by rw [hnf]; exact hle), hnf] at r3
      obtain ⟨a3, c3, rfl⟩ := r3.len
      have R3 : Hid (S.Rd W3 (.slice a1 s0.length c1) s0 ∧ S.Rd W3 (.slice a3 s0.length c3) s0) := ⟨R2.out.below b3 (Nat.le_refl _), r3⟩
      have HB3 : Hid (Below w.heap.size w W3) := HB2.out.trans (b3.mono HB2.out.size)
      have hs3 := HB3.out.size
      clear r3 b3 R2 hnf
      go_wp2
      go_loopw [8, 9] (fun vo iv wr => ∃ n : Nat, n ≤ l.length ∧ iv = .int .i64 ((n : Int) - 1) ∧ Hid (wr.ownsRow W3.heap.size 42 2 vo (l.drop n).reverse.length (S.cellsOf (l.drop n).reverse)) ∧ Hid (Below W3.heap.size W3 wr)) (fun _ iv _ => (intOf iv + 1).toNat)
      case atStart => exact ⟨l.length, Nat.le_refl _, rfl, by rw [List.drop_length]; exact World.ownsRow_nil _ _ _ _, Below.refl _ _⟩
      case round =>
        obtain ⟨n, hn2, rfl, HO, HB⟩ := hrel
        have hsr := HB.out.size
        cases n with
        | succ m =>
          obtain ⟨b, off, rfl, hcell⟩ := HC.out (by intro h; subst h; simp at hn2)
          obtain ⟨x, hx⟩ : ∃ x, l[m]? = some x := ⟨l[m]'(by omega), by simp [show m < l.length by omega]⟩
          have HBw : Hid (Below w.heap.size w wr) := HB3.out.trans (HB.out.mono hs3)
          have c0 := hcell m x hx
          have hb := L.block_lt c0.1
          have c1' := c0.1
          have c2' := c0.2
          rw [← HBw.out.cell (p := ⟨b, _, none⟩) hb] at c1' c2'
          have hrev : (l.drop m).reverse = (l.drop (m + 1)).reverse ++ [x] := by
            have hlt : m < l.length := by omega
            rw [List.drop_eq_getElem_cons hlt, List.reverse_cons]
            have : l[m] = x := by rw [List.getElem?_eq_getElem hlt] at hx; exact Option.some.inj hx
            rw [this]
          have HRev : Hid _ := hrev
          have hlr : (l.drop (m + 1)).reverse.length ≤ 17592186043904 := by rw [List.length_reverse, List.length_drop]; omega
          obtain ⟨x1, x2⟩ := x
          simp only at c1' c2'
          clear c0 hx hcell hrev
          have HOa : Hid (∀ o, (wr.alloc o).ownsRow W3.heap.size 42 2 _ (l.drop (m + 1)).reverse.length (S.cellsOf (l.drop (m + 1)).reverse)) := fun o => HO.out.alloc o
          have HBa : Hid (∀ o, Below W3.heap.size W3 (wr.alloc o)) := fun o => HB.out.alloc hsr o
          generalize hQ : (l.drop (m + 1)).reverse = Q at *
          have HQ : Hid _ := hQ
          clear hQ
          go_wp2_with (at_builtin; go_must (refine wpList_append_own _ rfl _ _ 22 rfl W3.heap.size 42 i0 (.agg #[.int .i32 0, .int .i32 0]) 2 8 Try.underlying22 hi hz0 hz1 hz2 rfl (by decide) _ _ _ rfl (HOa.out _) ⟨wr.heap.size, 0, none⟩ 1 1 [.int .i32 x1, .int .i32 x2] rfl rfl (fun j u hj => two_new _ _ _ _ _ (by simp) j u hj) (fun x hx => by simp at hx; rcases hx with rfl | rfl <;> rfl) (by unfold maxLen; omega) (by omega) (by simp; omega) ?_; intro v4 w4 hown4 hgrow4 hnil4; have HO4 : Hid _ := hown4; have HB4 : Hid (Below W3.heap.size W3 w4) := Below.grown (HBa.out _) hgrow4 (by simp; omega) (fun j hj => ((HOa.out (.cells #[.int .i32 x1, .int .i32 x2] 42)).lt j hj).1); clear hown4 hgrow4 hnil4))
          go_roundw
          case rel =>
            refine ⟨m, by omega, by go_num, ?_, HB4⟩
            rw [HRev.out]
            have := HO4.out
            rw [S.cellsOf_append, List.length_append]
            exact this
          case measure => simp [intOf]
        | zero =>
          have HO2 : Hid (wr.ownsRow W3.heap.size 42 2 _ l.reverse.length (S.cellsOf l.reverse)) := HO.out
          clear HO
          by_cases h1 : 0 ≤ at_
          · by_cases h2 : at_ < (l.length : Int)
            · obtain ⟨p, rfl⟩ : ∃ p : Nat, at_ = p := ⟨at_.toNat, by omega⟩
              have hp : p < l.length := by omega
              obtain ⟨b, off, rfl, hcell⟩ := HC.out (by intro h; subst h; simp at hp)
              obtain ⟨x, hx⟩ : ∃ x, l[p]? = some x := ⟨l[p], by simp [hp]⟩
              have HBw : Hid (Below w.heap.size w wr) := HB3.out.trans (HB.out.mono hs3)
              have c0 := hcell p x hx
              have hb := L.block_lt c0.1
              have c1' := c0.1
              have c2' := c0.2
              rw [← HBw.out.cell (p := ⟨b, _, none⟩) hb] at c1' c2'
              have HX : Hid (l[p]? = some x) := hx
              have fx := F.at hx
              obtain ⟨x1, x2⟩ := x
              simp only at c1' c2' fx
              clear c0 hx hcell
              by_cases h3 : x1 < x2
              · go_wp2
                go_quiet (fail)
                go_wp2
                have HBq : Hid (Below W3.heap.size W3 (wr.drewN nq)) := below_drewN HB.out _
                have HOq : Hid ((wr.drewN nq).ownsRow W3.heap.size 42 2 _ l.reverse.length (S.cellsOf l.reverse)) := S.owns_drewN HO2.out nq
                have d1 : (wr.drewN nq).cell? ⟨b, off + p * 2, none⟩ = some (.int .i32 x1) := c1'
                have d2 : (wr.drewN nq).cell? ⟨b, off + p * 2 + 1, none⟩ = some (.int .i32 x2) := c2'
                have hsq : W3.heap.size ≤ (wr.drewN nq).heap.size := hsr
                clear c1' c2' hsr
                generalize wr.drewN nq = wq at HBq HOq d1 d2 hsq ⊢
                have hvb := fun g hg => (HOq.out.lt g hg).1
                have hrl : l.reverse.length ≤ 17592186043904 := by rw [List.length_reverse]; omega
                have hwrap : IntKind.i32.wrap (x1 + 1) = x1 + 1 := by rw [IntKind.wrap_i32]; omega
                go_region_held3 (fun w' => w'.cell? ⟨b, off + p * 2, none⟩ = some (.int .i32 x1) ∧ w'.cell? ⟨b, off + p * 2 + 1, none⟩ = some (.int .i32 x2))
                  (first
                    | go_keep
                    | (go_split_ands; refine ⟨?_, ?_⟩ <;> (rw [hgrow5.cell_far _ (by simp; omega) (fun e => by have := hvb _ e.symm; simp at this; omega)]; assumption)))
                  ((refine step_append_o (by rfl) _ _ _ (by rfl) W3.heap.size 42 i0 _ 2 8 Try.underlying22 hi hz0 hz1 hz2 rfl (by decide) _ _ _ (by rfl) (owns_heap (HOq.out.alloc (.cells #[.int .i32 x1, .int .i32 x1, .int .i32 (x1 + 1), .int .i32 x2] 42)) rfl)
                      ⟨wq.heap.size, 0, none⟩ 2 2 [.int .i32 x1, .int .i32 x1, .int .i32 (x1 + 1), .int .i32 x2] (by rfl) (by rfl) (fun j u hj => four_new (w := wq) rfl _ rfl j u hj) (fun x hx => by simp at hx; rcases hx with rfl | rfl | rfl <;> rfl)
                      (by unfold maxLen; omega) (by omega) (by simp; omega) ?_; intro v5 w5 hown5 hgrow5))
                have HOz : Hid (w5.ownsRow W3.heap.size 42 2 v5 (l.reverse ++ [(x1, x1), (x1 + 1, x2)]).length (S.cellsOf (l.reverse ++ [(x1, x1), (x1 + 1, x2)]))) := by
                  have h := hown5
                  rw [S.cellsOf_append, List.length_append]
                  exact h
                have HBz : Hid (Below W3.heap.size W3 w5) := Below.grown (HBq.out.trans (below_drewN ((Below.refl _ _).alloc hsq _) 1)) hgrow5 (by simp; omega) (fun j hj => hvb j hj)
                clear hown5 hgrow5
                have hbl : (l.reverse ++ [(x1, x1), (x1 + 1, x2)]).length ≤ 17592186043906 := by simp; omega
                have HB4 : Hid (Below w.heap.size w w5) := HB3.out.trans (HBz.out.mono hs3)
                have R4 : Hid (S.Rd w5 (.slice a1 s0.length c1) s0 ∧ S.Rd w5 (.slice a3 s0.length c3) s0) := ⟨R3.out.1.below HBz.out (Nat.le_refl _), R3.out.2.below HBz.out (Nat.le_refl _)⟩
                have hof := of_any w5 _ (l.reverse ++ [(x1, x1), (x1 + 1, x2)]) (S.Rd.of_owns HOz.out) (by omega)
                rw [show (l.reverse ++ [(x1, x1), (x1 + 1, x2)]).any S.bad = false from bad_cut HBAD.out (List.mem_of_getElem? HX.out) h3, show S.memb (l.reverse ++ [(x1, x1), (x1 + 1, x2)]) = S.memb l from funext fun q => memb_cut (List.mem_of_getElem? HX.out) h3 q] at hof
                simp only [Bool.false_eq_true, if_false] at hof
                clear hbl
                go_wp2_with fail
                refine hof.mono ?_
                clear hof
                rintro e W5 ⟨v5, rfl, r5, b5, _⟩
                rw [S.resE_ok (by rw [HS0.out]; exact hle)]
                rw [S.resL_ok (by rw [HS0.out]; exact hle), HS0.out] at r5
                obtain ⟨a5, c5, rfl⟩ := r5.len
                have HB5 : Hid (Below w.heap.size w W5) := HB4.out.trans (b5.mono HB4.out.size)
                have R5 : Hid (S.Rd W5 (.slice a1 s0.length c1) s0 ∧ S.Rd W5 (.slice a3 s0.length c3) s0 ∧ S.Rd W5 (.slice a5 s0.length c5) s0) := ⟨R4.out.1.below b5 (Nat.le_refl _), R4.out.2.below b5 (Nat.le_refl _), r5⟩
                clear r5 b5
                go_wp2_with fail
                refine (same_true W5 _ _ _ _ R5.out.1 R5.out.2.1 rfl hle).mono ?_
                rintro e W6 ⟨rfl, b6⟩
                have HB6 : Hid (Below w.heap.size w W6) := HB5.out.trans (b6.mono HB5.out.size)
                have R6 : Hid (S.Rd W6 (.slice a1 s0.length c1) s0 ∧ S.Rd W6 (.slice a5 s0.length c5) s0) := ⟨R5.out.1.below b6 (Nat.le_refl _), R5.out.2.2.below b6 (Nat.le_refl _)⟩
                clear b6
                go_wp2_with fail
                refine (same_true W6 _ _ _ _ R6.out.1 R6.out.2 rfl hle).mono ?_
                rintro e W7 ⟨rfl, b7⟩
                have HB7 : Hid (Below w.heap.size w W7) := HB6.out.trans (b7.mono HB6.out.size)
                clear b7
                go_wp2
                go_ret
                exact ⟨rfl, HB7.out⟩
              · go_wp2
                go_quiet (fail)
                have HBq : Hid (Below W3.heap.size W3 (wr.drewN nq)) := below_drewN HB.out _
                have HOq : Hid ((wr.drewN nq).ownsRow W3.heap.size 42 2 _ l.reverse.length (S.cellsOf l.reverse)) := S.owns_drewN HO2.out nq
                generalize wr.drewN nq = wq at HBq HOq ⊢
                have hbl : l.reverse.length ≤ 17592186043906 := by rw [List.length_reverse]; omega
                have HB4 : Hid (Below w.heap.size w wq) := HB3.out.trans (HBq.out.mono hs3)
                have R4 : Hid (S.Rd wq (.slice a1 s0.length c1) s0 ∧ S.Rd wq (.slice a3 s0.length c3) s0) := ⟨R3.out.1.below HBq.out (Nat.le_refl _), R3.out.2.below HBq.out (Nat.le_refl _)⟩
                have hof := of_any wq _ l.reverse (S.Rd.of_owns HOq.out) (by omega)
                rw [show l.reverse.any S.bad = false from (by rw [List.any_reverse]; exact HBAD.out), show S.memb l.reverse = S.memb l from funext fun q => memb_rev l q] at hof
                simp only [Bool.false_eq_true, if_false] at hof
                clear hbl
                go_wp2_with fail
                refine hof.mono ?_
                clear hof
                rintro e W5 ⟨v5, rfl, r5, b5, _⟩
                rw [S.resE_ok (by rw [HS0.out]; exact hle)]
                rw [S.resL_ok (by rw [HS0.out]; exact hle), HS0.out] at r5
                obtain ⟨a5, c5, rfl⟩ := r5.len
                have HB5 : Hid (Below w.heap.size w W5) := HB4.out.trans (b5.mono HB4.out.size)
                have R5 : Hid (S.Rd W5 (.slice a1 s0.length c1) s0 ∧ S.Rd W5 (.slice a3 s0.length c3) s0 ∧ S.Rd W5 (.slice a5 s0.length c5) s0) := ⟨R4.out.1.below b5 (Nat.le_refl _), R4.out.2.below b5 (Nat.le_refl _), r5⟩
                clear r5 b5
                go_wp2_with fail
                refine (same_true W5 _ _ _ _ R5.out.1 R5.out.2.1 rfl hle).mono ?_
                rintro e W6 ⟨rfl, b6⟩
                have HB6 : Hid (Below w.heap.size w W6) := HB5.out.trans (b6.mono HB5.out.size)
                have R6 : Hid (S.Rd W6 (.slice a1 s0.length c1) s0 ∧ S.Rd W6 (.slice a5 s0.length c5) s0) := ⟨R5.out.1.below b6 (Nat.le_refl _), R5.out.2.2.below b6 (Nat.le_refl _)⟩
                clear b6
                go_wp2_with fail
                refine (same_true W6 _ _ _ _ R6.out.1 R6.out.2 rfl hle).mono ?_
                rintro e W7 ⟨rfl, b7⟩
                have HB7 : Hid (Below w.heap.size w W7) := HB6.out.trans (b7.mono HB6.out.size)
                clear b7
                go_wp2
                go_ret
                exact ⟨rfl, HB7.out⟩
            · have h2' : decide (at_ < (l.length : Int)) = false := by simp; omega
              go_wp2
              go_quiet (fail)
              have HBq : Hid (Below W3.heap.size W3 (wr.drewN nq)) := below_drewN HB.out _
              have HOq : Hid ((wr.drewN nq).ownsRow W3.heap.size 42 2 _ l.reverse.length (S.cellsOf l.reverse)) := S.owns_drewN HO2.out nq
              generalize wr.drewN nq = wq at HBq HOq ⊢
              have hbl : l.reverse.length ≤ 17592186043906 := by rw [List.length_reverse]; omega
              have HB4 : Hid (Below w.heap.size w wq) := HB3.out.trans (HBq.out.mono hs3)
              have R4 : Hid (S.Rd wq (.slice a1 s0.length c1) s0 ∧ S.Rd wq (.slice a3 s0.length c3) s0) := ⟨R3.out.1.below HBq.out (Nat.le_refl _), R3.out.2.below HBq.out (Nat.le_refl _)⟩
              have hof := of_any wq _ l.reverse (S.Rd.of_owns HOq.out) (by omega)
              rw [show l.reverse.any S.bad = false from (by rw [List.any_reverse]; exact HBAD.out), show S.memb l.reverse = S.memb l from funext fun q => memb_rev l q] at hof
              simp only [Bool.false_eq_true, if_false] at hof
              clear hbl
              go_wp2_with fail
              refine hof.mono ?_
              clear hof
              rintro e W5 ⟨v5, rfl, r5, b5, _⟩
              rw [S.resE_ok (by rw [HS0.out]; exact hle)]
              rw [S.resL_ok (by rw [HS0.out]; exact hle), HS0.out] at r5
              obtain ⟨a5, c5, rfl⟩ := r5.len
              have HB5 : Hid (Below w.heap.size w W5) := HB4.out.trans (b5.mono HB4.out.size)
              have R5 : Hid (S.Rd W5 (.slice a1 s0.length c1) s0 ∧ S.Rd W5 (.slice a3 s0.length c3) s0 ∧ S.Rd W5 (.slice a5 s0.length c5) s0) := ⟨R4.out.1.below b5 (Nat.le_refl _), R4.out.2.below b5 (Nat.le_refl _), r5⟩
              clear r5 b5
              go_wp2_with fail
              refine (same_true W5 _ _ _ _ R5.out.1 R5.out.2.1 rfl hle).mono ?_
              rintro e W6 ⟨rfl, b6⟩
              have HB6 : Hid (Below w.heap.size w W6) := HB5.out.trans (b6.mono HB5.out.size)
              have R6 : Hid (S.Rd W6 (.slice a1 s0.length c1) s0 ∧ S.Rd W6 (.slice a5 s0.length c5) s0) := ⟨R5.out.1.below b6 (Nat.le_refl _), R5.out.2.2.below b6 (Nat.le_refl _)⟩
              clear b6
              go_wp2_with fail
              refine (same_true W6 _ _ _ _ R6.out.1 R6.out.2 rfl hle).mono ?_
              rintro e W7 ⟨rfl, b7⟩
              have HB7 : Hid (Below w.heap.size w W7) := HB6.out.trans (b7.mono HB6.out.size)
              clear b7
              go_wp2
              go_ret
              exact ⟨rfl, HB7.out⟩
          · have h1' : decide (0 ≤ at_) = false := by simp; omega
            go_wp2
            go_quiet (fail)
            have HBq : Hid (Below W3.heap.size W3 (wr.drewN nq)) := below_drewN HB.out _
            have HOq : Hid ((wr.drewN nq).ownsRow W3.heap.size 42 2 _ l.reverse.length (S.cellsOf l.reverse)) := S.owns_drewN HO2.out nq
            generalize wr.drewN nq = wq at HBq HOq ⊢
            have hbl : l.reverse.length ≤ 17592186043906 := by rw [List.length_reverse]; omega
            have HB4 : Hid (Below w.heap.size w wq) := HB3.out.trans (HBq.out.mono hs3)
            have R4 : Hid (S.Rd wq (.slice a1 s0.length c1) s0 ∧ S.Rd wq (.slice a3 s0.length c3) s0) := ⟨R3.out.1.below HBq.out (Nat.le_refl _), R3.out.2.below HBq.out (Nat.le_refl _)⟩
            have hof := of_any wq _ l.reverse (S.Rd.of_owns HOq.out) (by omega)
            rw [show l.reverse.any S.bad = false from (by rw [List.any_reverse]; exact HBAD.out), show S.memb l.reverse = S.memb l from funext fun q => memb_rev l q] at hof
            simp only [Bool.false_eq_true, if_false] at hof
            clear hbl
            go_wp2_with fail
            refine hof.mono ?_
            clear hof
            rintro e W5 ⟨v5, rfl, r5, b5, _⟩
            rw [S.resE_ok (by rw [HS0.out]; exact hle)]
            rw [S.resL_ok (by rw [HS0.out]; exact hle), HS0.out] at r5
            obtain ⟨a5, c5, rfl⟩ := r5.len
            have HB5 : Hid (Below w.heap.size w W5) := HB4.out.trans (b5.mono HB4.out.size)
            have R5 : Hid (S.Rd W5 (.slice a1 s0.length c1) s0 ∧ S.Rd W5 (.slice a3 s0.length c3) s0 ∧ S.Rd W5 (.slice a5 s0.length c5) s0) := ⟨R4.out.1.below b5 (Nat.le_refl _), R4.out.2.below b5 (Nat.le_refl _), r5⟩
            clear r5 b5
            go_wp2_with fail
            refine (same_true W5 _ _ _ _ R5.out.1 R5.out.2.1 rfl hle).mono ?_
            rintro e W6 ⟨rfl, b6⟩
            have HB6 : Hid (Below w.heap.size w W6) := HB5.out.trans (b6.mono HB5.out.size)
            have R6 : Hid (S.Rd W6 (.slice a1 s0.length c1) s0 ∧ S.Rd W6 (.slice a5 s0.length c5) s0) := ⟨R5.out.1.below b6 (Nat.le_refl _), R5.out.2.2.below b6 (Nat.le_refl _)⟩
            clear b6
            go_wp2_with fail
            refine (same_true W6 _ _ _ _ R6.out.1 R6.out.2 rfl hle).mono ?_
            rintro e W7 ⟨rfl, b7⟩
            have HB7 : Hid (Below w.heap.size w W7) := HB6.out.trans (b7.mono HB6.out.size)
            clear b7
            go_wp2
            go_ret
            exact ⟨rfl, HB7.out⟩

end Go.Proofs.Ytginejblmkiamaa
