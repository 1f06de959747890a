/-
  What comes in, as a rule and a text; how long they are at most.
-/
import Derived.Test.YtlmmjefplbcapaaGreatSFrame
import Derived.Test.YtlmmjefplbcapaaGreatRuFrame
import Derived.Deep.Slices
import Derived.SizedLaws
import Derived.Test.YtlmmjefplbcapaaGreatKRight
import Derived.Laws.Cover4
namespace Go.Proofs.YtlmmjefplbcapaaGreat
open Go.ChangeShapes Go.WideShapes Go.ChangeAt Go.RowKit

theorem Tryz.bytesSet : Tryz.prog.bytesOf 70 = 24 := by kernel_rfl
namespace K
theorem wf_i64 {n : Int} (h : (Lit.int .i64 n).wf = true) : I64 n := by
  simp only [Lit.wf, Bool.and_eq_true, decide_eq_true_eq] at h
  have e1 : IntKind.i64.min = -9223372036854775808 := by decide
  have e2 : IntKind.i64.max = 9223372036854775807 := by decide
  rw [e1, e2] at h
  exact h
end K

set_option maxRecDepth 100000 in
/-- cells that read as a set -/
theorem set_cells {H : Type} {enc : TypeId × Value → H} {W : World} {fuel : Nat} {cs : List Value} {x : DataW H × List MemPlace} (h : DataW.trod enc Tryz.prog W 0 (fun _ => true) true fuel 70 cs = some x) :
    ∃ u s, cs = [u] ∧ K.SetIs W u s := by
  rcases Go.Deep.open_slice Tryz.underlying70 h with ⟨hcs, hx⟩ | ⟨a, len, cap, m, n, D, Pl, hcs, _, hl, hm, hmm, hx, hcell⟩
  · exact ⟨_, [], hcs, ⟨none, 0, rfl⟩, S.Rd.nil W, fun x hx => by cases hx⟩
  · have hv : Value.okWide Tryz.prog W .any 0 70 (.slice (some a) len cap) ∨ True := .inr trivial
    subst hcs
    obtain ⟨f0, f1, hu, o0, o1, t0, t1⟩ : ∃ f0 f1 : Field, Tryz.prog.underlying 86 = some (.struct #[f0, f1]) ∧ f0.offset = 0 ∧ f1.offset = 1 ∧ f0.type = 21 ∧ f1.type = 21 := ⟨_, _, Tryz.underlying86, rfl, rfl, rfl, rfl⟩
    rcases Go.Deep.open_slice_pairs Tryz.underlying70 hu (by kernel_rfl) o0 o1 (by rw [t0]; kernel_rfl) (by rw [t1]; kernel_rfl) h with ⟨hcs, hx⟩ | ⟨a', len', cap', m', n', V0, V1, D0, D1, P0, P1, hcs, _, hl', hm', hmm', hx', hcell'⟩
    · cases hcs
    · cases hcs
      simp only [if_true] at hmm'
      subst hmm'
      have each : ∀ i, i < len → ∃ x1 x2 : Int, V0 i = .int .i32 x1 ∧ V1 i = .int .i32 x2 ∧ -2147483648 ≤ x1 ∧ x1 ≤ 2147483647 ∧ -2147483648 ≤ x2 ∧ x2 ≤ 2147483647 := fun i hi => by
        obtain ⟨_, _, h3, h4⟩ := hcell' i (by omega)
        rw [t0] at h3
        rw [t1] at h4
        obtain ⟨x1, e1, _, w1⟩ := DataW.trod_int Tryz.underlying21 h3
        obtain ⟨x2, e2, _, w2⟩ := DataW.trod_int Tryz.underlying21 h4
        have := wf_i32 w1
        have := wf_i32 w2
        exact ⟨x1, x2, by simpa using e1, by simpa using e2, by omega, by omega, by omega, by omega⟩
      let g : Nat → S.Sp := fun i => (intOf (V0 i), intOf (V1 i))
      have hg : ∀ i, i < len → V0 i = .int .i32 (g i).1 ∧ V1 i = .int .i32 (g i).2 ∧ -2147483648 ≤ (g i).1 ∧ (g i).1 ≤ 2147483647 ∧ -2147483648 ≤ (g i).2 ∧ (g i).2 ≤ 2147483647 := fun i hi => by
        obtain ⟨x1, x2, e1, e2, h⟩ := each i hi
        simp only [g, e1, e2, intOf]
        exact ⟨trivial, trivial, h⟩
      have hlen : ((List.range len).map g).length = len := by simp
      refine ⟨_, (List.range len).map g, rfl, ⟨some a, m', by rw [hlen]⟩, ⟨_, m', by rw [hlen], fun h => by simp at h, fun hne => ?_⟩, fun x hx => ?_⟩
      · have h0 : 0 < len := by
          cases len with
          | zero => simp at hne
          | succ => omega
        obtain ⟨b, off, spot⟩ := a
        have c0 := (hcell' 0 (by omega)).1
        have hsp : spot = none := by simpa [Addr.add] using World.cell?_spot c0
        subst hsp
        refine ⟨b, off, rfl, fun j x hj => ?_⟩
        have hj2 : j < len := by
          have := (List.getElem?_eq_some_iff.1 hj).1
          rw [hlen] at this
          exact this
        have hxj : g j = x := by
          rw [List.getElem?_map, List.getElem?_range hj2] at hj
          simpa using hj
        obtain ⟨h3, h4, _⟩ := hcell' j (by omega)
        rw [L.addr_add] at h3 h4
        rw [← Nat.add_assoc] at h4
        rw [h3, h4, (hg j hj2).1, (hg j hj2).2.1, hxj]
        exact ⟨rfl, rfl⟩
      · obtain ⟨i, hi, rfl⟩ := List.mem_map.1 hx
        exact (hg i (by simpa using hi)).2.2

set_option maxRecDepth 100000 in
/-- cells that read as a list of sets -/
theorem sets_cells {H : Type} {enc : TypeId × Value → H} {W : World} {fuel : Nat} {cs : List Value} {x : DataW H × List MemPlace} (h : DataW.trod enc Tryz.prog W 0 (fun _ => true) true fuel 53 cs = some x) (hw : ∀ n ∈ x.1.weights Tryz.prog 53, n ≤ reachBytes) :
    ∃ ao c l, cs = [.slice ao (List.length l) c] ∧ K.Ss W (.slice ao l.length c) l := by
  have ce : Tryz.prog.cellsOf 70 = 1 := by kernel_rfl
  rcases Go.Deep.open_slice Tryz.underlying53 h with ⟨hcs, hx⟩ | ⟨a, len, cap, m, n, D, Pl, hcs, _, hl, hm, hmm, hx, hcell⟩
  · exact ⟨none, 0, [], hcs, none, 0, [], rfl, fun _ => rfl, by simp, ⟨rfl, fun j u s h => by cases h⟩, fun h => absurd rfl h⟩
  · subst hx
    simp only [if_true] at hmm
    subst hmm
    have hlen : len ≤ 140737488355328 := by
      have h1 := hw ((((List.range len).map D).length + ((List.range (m - len)).map fun j => D (len + j)).length) * 24) (by
        simp only [DataW.weights, Tryz.underlying53, Tryz.bytesSet]
        exact List.mem_cons_self)
      simp only [List.length_map, List.length_range, reachBytes] at h1
      omega
    have each : ∀ i, i < len → ∃ q : Value × List S.Sp, W.cell? (a.add i) = some q.1 ∧ K.SetIs W q.1 q.2 := fun i hi => by
      obtain ⟨cs', h1, h2⟩ := hcell i (by omega)
      rw [ce] at h1
      obtain ⟨_, hlen', hcl⟩ := World.cells?_some h1
      obtain ⟨u, s, rfl, hs⟩ := set_cells h2
      have e0 := hcl 0 (by omega)
      rw [Go.Deep.add_add] at e0
      exact ⟨(u, s), by simpa using e0, hs⟩
    have hne : Inhabited (Value × List S.Sp) := ⟨(.nilFunc, [])⟩
    obtain ⟨q, hq⟩ := Go.Deep.choose_lt each
    refine ⟨some a, m, (List.range len).map fun i => (q i).2, by rw [hcs]; simp, some a, m, (List.range len).map fun i => (q i).1, by simp, (fun h => by cases h), by simpa using hlen, ⟨by simp, fun j u s hu hs => ?_⟩, fun hne => ?_⟩
    · have hj : j < len := by
        have := (List.getElem?_eq_some_iff.1 hu).1
        simpa using this
      rw [List.getElem?_map, List.getElem?_range hj] at hu hs
      cases hu
      cases hs
      exact (hq j hj).2
    · have h0 : 0 < len := by
        cases len with
        | zero => simp at hne
        | succ => omega
      obtain ⟨b, off, spot⟩ := a
      have hsp : spot = none := by
        have := (hq 0 h0).1
        simpa [Addr.add] using World.cell?_spot this
      subst hsp
      refine ⟨b, off, rfl, fun j u hu => ?_⟩
      have hj : j < len := by
        have := (List.getElem?_eq_some_iff.1 hu).1
        simpa using this
      rw [List.getElem?_map, List.getElem?_range hj] at hu
      cases hu
      have := (hq j hj).1
      rw [L.addr_add] at this
      exact this

set_option maxRecDepth 100000 in
/-- cells that read as a rule -/
theorem rule_cells {H : Type} {enc : TypeId × Value → H} {W : World} {fuel : Nat} {v0 v1 v2 v3 v4 v5 v6 : Value} {x : DataW H × List MemPlace} (h : DataW.trod enc Tryz.prog W 0 (fun _ => true) true fuel 55 [v0, v1, v2, v3, v4, v5, v6] = some x) (hw : ∀ n ∈ x.1.weights Tryz.prog 55, n ≤ reachBytes) :
    ∃ r, K.RuIs W (.agg #[v0, v1, v2, v3, v4, v5, v6]) r := by
  obtain ⟨f0, f1, f2, f3, f4, f5, f6, hu, o0, o1, o2, o3, o4, o5, o6, t0, t1, t2, t3, t4, t5, t6⟩ : ∃ f0 f1 f2 f3 f4 f5 f6 : Field, Tryz.prog.underlying 55 = some (.struct #[f0, f1, f2, f3, f4, f5, f6]) ∧ f0.offset = 0 ∧ f1.offset = 1 ∧ f2.offset = 2 ∧ f3.offset = 3 ∧ f4.offset = 4 ∧ f5.offset = 5 ∧ f6.offset = 6 ∧ f0.type = 4 ∧ f1.type = 4 ∧ f2.type = 53 ∧ f3.type = 53 ∧ f4.type = 53 ∧ f5.type = 23 ∧ f6.type = 3 := ⟨_, _, _, _, _, _, _, Tryz.underlying55, rfl, rfl, rfl, rfl, rfl, rfl, rfl, rfl, rfl, rfl, rfl, rfl, rfl, rfl⟩
  have ci : Tryz.prog.cellsOf 3 = 1 := by kernel_rfl
  have ci2 : Tryz.prog.cellsOf 4 = 1 := by kernel_rfl
  have ci3 : Tryz.prog.cellsOf 53 = 1 := by kernel_rfl
  have ci4 : Tryz.prog.cellsOf 23 = 1 := by kernel_rfl
  obtain ⟨xs, k, hk, hxy, _, hxl, hfl⟩ := DataW.trod_struct hu h
  match xs, hxl with
  | [y0, y1, y2, y3, y4, y5, y6], _ =>
    have g0 := hfl 0 f0 rfl
    have g1 := hfl 1 f1 rfl
    have g2 := hfl 2 f2 rfl
    have g3 := hfl 3 f3 rfl
    have g4 := hfl 4 f4 rfl
    have g5 := hfl 5 f5 rfl
    have g6 := hfl 6 f6 rfl
    simp [o0, o1, o2, o3, o4, o5, o6, t0, t1, t2, t3, t4, t5, t6, ci, ci2, ci3, ci4] at g0 g1 g2 g3 g4 g5 g6
    have hD : x.1 = .agg [y0.1, y1.1, y2.1, y3.1, y4.1, y5.1, y6.1] := by
      have := congrArg Prod.fst hxy
      simpa using this
    have hwe : ∀ (j : Nat) (t : TypeId) (d : DataW H), ([4, 4, 53, 53, 53, 23, 3] : List TypeId)[j]? = some t → ([y0.1, y1.1, y2.1, y3.1, y4.1, y5.1, y6.1] : List (DataW H))[j]? = some d → ∀ n ∈ d.weights Tryz.prog t, n ≤ reachBytes := fun j t d h1 h2 n hn => hw n (by
      rw [hD]
      simp only [DataW.weights, hu]
      refine DataW.weights_mem_each (j := j) (t := t) (d := d) ?_ h2 n hn
      simpa [t0, t1, t2, t3, t4, t5, t6] using h1)
    obtain ⟨b0, c0, _⟩ := DataW.trod_bool Tryz.underlying4 g0
    obtain ⟨b1, c1, _⟩ := DataW.trod_bool Tryz.underlying4 g1
    obtain ⟨a2, n2, l2, c2, r2⟩ := sets_cells g2 (hwe 2 _ _ rfl rfl)
    obtain ⟨a3, n3, l3, c3, r3⟩ := sets_cells g3 (hwe 3 _ _ rfl rfl)
    obtain ⟨a4, n4, l4, c4, r4⟩ := sets_cells g4 (hwe 4 _ _ rfl rfl)
    obtain ⟨a5, n5, l5, c5, r5, q5, _⟩ := runes_cells g5 (hwe 5 _ _ rfl rfl)
    obtain ⟨x6, c6, _, w6⟩ := DataW.trod_int Tryz.underlying3 g6
    simp only [List.cons.injEq, and_true] at c0 c1 c2 c3 c4 c5 c6
    subst c0 c1 c2 c3 c4 c5 c6
    exact ⟨⟨b0, b1, l2, l3, l4, l5, x6⟩, a2, n2, a3, n3, a4, n4, a5, n5, rfl, r2, r3, r4, r5, q5, K.wf_i64 w6⟩

end Go.Proofs.YtlmmjefplbcapaaGreat

/-
  Each property of numbers in range has its set; and what union, meeting, turning over and taking away make.
-/
namespace Go.Proofs.YtlmmjefplbcapaaGreat.S

theorem exists_upto (P : Int → Bool) (n : Nat) (hn : n ≤ 1114112) : ∃ s, Nf 0 s ∧ (∀ q, memb s q = (decide (0 ≤ q) && decide (q < n) && P q)) := by
  induction n with
  | zero => exact ⟨[], trivial, fun q => by
      have : (decide (0 ≤ q) && decide (q < ((0 : Nat) : Int))) = false := by simp
      rw [this, memb_nil]; simp⟩
  | succ n ih =>
    obtain ⟨s, h1, h2⟩ := ih (by omega)
    have ends : ∀ p ∈ s, p.1 ≤ p.2 ∧ p.2 < n := fun p hp => by
      have h3 := h1.mem hp
      have h4 : memb s p.2 = true := memb_iff.2 ⟨p, hp, by omega, by omega⟩
      rw [h2] at h4
      simp at h4
      omega
    cases hP : P n with
    | true =>
      have hj := joinF_nf (x := ((n : Int), (n : Int))) h1 (by simp only; omega) (by simp only; omega) (by simp only; omega) fun p hp => by
        have := ends p (List.mem_of_getLast? hp)
        simp only; omega
      refine ⟨_, hj.1, fun q => ?_⟩
      rw [hj.2, h2]
      simp only
      by_cases hq : q = n
      · subst hq; simp [hP]; omega
      · have e1 : (decide ((n : Int) ≤ q) && decide (q ≤ (n : Int))) = false := by simp; omega
        have e2 : decide (q < (n : Int)) = decide (q < ((n + 1 : Nat) : Int)) := by apply bool_eq; simp; omega
        rw [e1, e2, Bool.or_false]
    | false =>
      refine ⟨s, h1, fun q => ?_⟩
      rw [h2]
      by_cases hq : q = n
      · subst hq; simp [hP]
      · have e2 : decide (q < (n : Int)) = decide (q < ((n + 1 : Nat) : Int)) := by apply bool_eq; simp; omega
        rw [e2]

theorem exists_is {P : Int → Bool} (h : ∀ q, P q = (inR q && P q)) : ∃ s, Is P s := by
  obtain ⟨s, h1, h2⟩ := exists_upto P 1114112 (by omega)
  refine ⟨s, h1, fun q => ?_⟩
  rw [h2, h q]
  have : (decide (0 ≤ q) && decide (q < ((1114112 : Nat) : Int))) = inR q := by
    apply bool_eq; simp [inR]; omega
  rw [this]
  cases inR q <;> simp

theorem nf_ok {P : Int → Bool} (h : ∀ q, P q = (inR q && P q)) : Nf 0 (nf P) ∧ memb (nf P) = P := by
  have := nf_is (exists_is h)
  exact ⟨this.1, funext this.2⟩

theorem orP_in (a b : List Sp) (q : Int) : orP a b q = (inR q && orP a b q) := by unfold orP; cases inR q <;> simp
theorem andP_in (a b : List Sp) (q : Int) : andP a b q = (inR q && andP a b q) := by unfold andP; cases inR q <;> simp
theorem minP_in (a b : List Sp) (q : Int) : minP a b q = (inR q && minP a b q) := by unfold minP; cases inR q <;> simp
theorem notP_in (a : List Sp) (q : Int) : notP a q = (inR q && notP a q) := by unfold notP; cases inR q <;> simp
theorem memb_in {a : List Sp} (h : Nf 0 a) (q : Int) : memb a q = (inR q && memb a q) := h.inR q

noncomputable def U (a b : List Sp) : List Sp := nf (orP a b)
noncomputable def I (a b : List Sp) : List Sp := nf (andP a b)
noncomputable def D (a b : List Sp) : List Sp := nf (minP a b)
noncomputable def C (a : List Sp) : List Sp := nf (notP a)

theorem U_nf (a b : List Sp) : Nf 0 (U a b) := (nf_ok (orP_in a b)).1
theorem I_nf (a b : List Sp) : Nf 0 (I a b) := (nf_ok (andP_in a b)).1
theorem D_nf (a b : List Sp) : Nf 0 (D a b) := (nf_ok (minP_in a b)).1
theorem C_nf (a : List Sp) : Nf 0 (C a) := (nf_ok (notP_in a)).1
theorem U_mem (a b : List Sp) (q : Int) : memb (U a b) q = orP a b q := congrFun (nf_ok (orP_in a b)).2 q
theorem I_mem (a b : List Sp) (q : Int) : memb (I a b) q = andP a b q := congrFun (nf_ok (andP_in a b)).2 q
theorem D_mem (a b : List Sp) (q : Int) : memb (D a b) q = minP a b q := congrFun (nf_ok (minP_in a b)).2 q
theorem C_mem (a : List Sp) (q : Int) : memb (C a) q = notP a q := congrFun (nf_ok (notP_in a)).2 q
theorem U_len {a b : List Sp} (ha : Nf 0 a) (hb : Nf 0 b) : (U a b).length ≤ a.length + b.length := or_length ha hb ⟨U_nf a b, U_mem a b⟩
theorem I_len {a b : List Sp} (ha : Nf 0 a) : (I a b).length ≤ a.length + b.length := and_length ha ⟨I_nf a b, I_mem a b⟩
theorem C_len (a : List Sp) : (C a).length ≤ a.length + 1 := not_length ⟨C_nf a, C_mem a⟩

theorem eq_of {s t : List Sp} (hs : Nf 0 s) (ht : Nf 0 t) (h : ∀ q, memb s q = memb t q) : s = t := hs.unique ht h

/-- BOOLE'S ALGEBRA, DE MORGAN -/
theorem U_comm (a b : List Sp) : U a b = U b a := eq_of (U_nf _ _) (U_nf _ _) fun q => by
  simp only [U_mem, orP]; cases inR q <;> cases memb a q <;> cases memb b q <;> rfl
theorem I_comm (a b : List Sp) : I a b = I b a := eq_of (I_nf _ _) (I_nf _ _) fun q => by
  simp only [I_mem, andP]; cases inR q <;> cases memb a q <;> cases memb b q <;> rfl
theorem U_assoc (a b c : List Sp) : U (U a b) c = U a (U b c) := eq_of (U_nf _ _) (U_nf _ _) fun q => by
  simp only [U_mem, orP]; cases inR q <;> cases memb a q <;> cases memb b q <;> cases memb c q <;> rfl
theorem I_assoc (a b c : List Sp) : I (I a b) c = I a (I b c) := eq_of (I_nf _ _) (I_nf _ _) fun q => by
  simp only [I_mem, andP]; cases inR q <;> cases memb a q <;> cases memb b q <;> cases memb c q <;> rfl
theorem I_over (a b c : List Sp) : I a (U b c) = U (I a b) (I a c) := eq_of (I_nf _ _) (U_nf _ _) fun q => by
  simp only [U_mem, orP, I_mem, andP]; cases inR q <;> cases memb a q <;> cases memb b q <;> cases memb c q <;> rfl
theorem U_over (a b c : List Sp) : U a (I b c) = I (U a b) (U a c) := eq_of (U_nf _ _) (I_nf _ _) fun q => by
  simp only [U_mem, orP, I_mem, andP]; cases inR q <;> cases memb a q <;> cases memb b q <;> cases memb c q <;> rfl
theorem C_U (a b : List Sp) : C (U a b) = I (C a) (C b) := eq_of (C_nf _) (I_nf _ _) fun q => by
  simp only [U_mem, orP, I_mem, andP, C_mem, notP]; cases inR q <;> cases memb a q <;> cases memb b q <;> rfl
theorem C_C {a : List Sp} (h : Nf 0 a) : C (C a) = a := eq_of (C_nf _) h fun q => by
  rw [h.inR q]; simp only [C_mem, notP]; cases inR q <;> cases memb a q <;> rfl
theorem U_self {a : List Sp} (h : Nf 0 a) : U a a = a := eq_of (U_nf _ _) h fun q => by
  rw [h.inR q]; simp only [U_mem, orP]; cases inR q <;> cases memb a q <;> rfl
theorem I_C (a : List Sp) : I a (C a) = [] := eq_of (I_nf _ _) trivial fun q => by
  rw [memb_nil]; simp only [I_mem, andP, C_mem, notP]; cases inR q <;> cases memb a q <;> rfl
theorem D_C (a b : List Sp) : D a b = I a (C b) := eq_of (D_nf _ _) (I_nf _ _) fun q => by
  simp only [I_mem, andP, C_mem, notP, D_mem, minP]; cases inR q <;> cases memb a q <;> cases memb b q <;> rfl

/-- right sets that make none too large -/
theorem wrong_ok {a : List Sp} (h : Nf 0 a) (hl : a.length ≤ 200) : wrongE a = 0 := wrongE_zero.2 ⟨hl, h⟩
theorem resL_ok {P : Int → Bool} (h : (nf P).length ≤ 200) : resL 0 0 P = nf P := by
  unfold resL fewL; simp; omega
theorem resE_ok {P : Int → Bool} (h : (nf P).length ≤ 200) : resE 0 0 P = 0 := by
  unfold resE fewE; simp; omega

/-- HOW MANY: numbers from 0 on, below n, of which something holds -/
def cnt (P : Int → Bool) : Nat → Nat
  | 0 => 0
  | n + 1 => cnt P n + if P n = true then 1 else 0

theorem cnt_congr {P Q : Int → Bool} {n : Nat} (h : ∀ q : Int, 0 ≤ q → q < (n : Int) → P q = Q q) : cnt P n = cnt Q n := by
  induction n with
  | zero => rfl
  | succ n ih => rw [cnt, cnt, ih fun q h1 h2 => h q h1 (by omega), h n (by omega) (by omega)]
theorem cnt_add (P Q : Int → Bool) (n : Nat) : cnt (fun q => P q || Q q) n + cnt (fun q => P q && Q q) n = cnt P n + cnt Q n := by
  induction n with
  | zero => rfl
  | succ n ih => simp only [cnt]; by_cases hP : P n = true <;> by_cases hQ : Q n = true <;> simp [hP, hQ] <;> omega
theorem cnt_not (P : Int → Bool) (n : Nat) : cnt P n + cnt (fun q => !P q) n = n := by
  induction n with
  | zero => rfl
  | succ n ih => simp only [cnt]; by_cases hP : P n = true <;> simp [hP] <;> omega
theorem cnt_le (P : Int → Bool) (n : Nat) : cnt P n ≤ n := by
  induction n with
  | zero => exact Nat.le_refl _
  | succ n ih => simp only [cnt]; by_cases hP : P n = true <;> simp [hP] <;> omega
theorem cnt_mono {P Q : Int → Bool} {n : Nat} (h : ∀ q : Int, 0 ≤ q → q < (n : Int) → P q = true → Q q = true) : cnt P n ≤ cnt Q n := by
  induction n with
  | zero => exact Nat.le_refl _
  | succ n ih =>
    have := ih fun q h1 h2 => h q h1 (by omega)
    have h2 := h n (by omega) (by omega)
    simp only [cnt]
    by_cases hP : P n = true
    · rw [if_pos hP, if_pos (h2 hP)]; omega
    · rw [if_neg hP]; split <;> omega
/-- who has as many of the same has them all -/
theorem cnt_eq {P Q : Int → Bool} {n : Nat} (h : ∀ q : Int, 0 ≤ q → q < (n : Int) → P q = true → Q q = true) (he : cnt P n = cnt Q n) : ∀ q : Int, 0 ≤ q → q < (n : Int) → Q q = true → P q = true := by
  induction n with
  | zero => intro q h1 h2; omega
  | succ n ih =>
    have hm := cnt_mono (n := n) fun q h1 h2 => h q h1 (by omega)
    have h2 := h n (by omega) (by omega)
    simp only [cnt] at he
    intro q h3 h4 h5
    by_cases e : q = n
    · subst e
      rw [h5] at he
      cases hP : P (n : Int) with
      | true => rfl
      | false => rw [hP] at he; simp at he; omega
    · refine ih (fun q h1 h2 => h q h1 (by omega)) ?_ q h3 (by omega) h5
      cases hP : P (n : Int) with
      | true => rw [hP, h2 hP] at he; omega
      | false => rw [hP] at he; cases hQ : Q (n : Int) <;> rw [hQ] at he <;> simp at he <;> omega

theorem cnt_span (lo hi : Int) (n : Nat) (h0 : 0 ≤ lo) (h1 : lo ≤ hi + 1) : (cnt (fun q => decide (lo ≤ q) && decide (q ≤ hi)) n : Int) = (if (n : Int) ≤ lo then 0 else if (n : Int) ≤ hi + 1 then (n : Int) - lo else hi - lo + 1) := by
  induction n with
  | zero => simp [cnt, h0]
  | succ n ih =>
    simp only [cnt]
    rw [Int.natCast_add, ih]
    by_cases c1 : lo ≤ (n : Int)
    · by_cases c2 : (n : Int) ≤ hi
      · simp [c1, c2]; split <;> split <;> (try split) <;> (try split) <;> omega
      · simp [c1, c2]; split <;> split <;> (try split) <;> (try split) <;> omega
    · simp [c1]; split <;> split <;> (try split) <;> (try split) <;> omega

/-- the sum of the spans' sizes -/
def total : List Sp → Int
  | [] => 0
  | x :: l => (x.2 - x.1 + 1) + total l

theorem cnt_or_apart (P Q : Int → Bool) (n : Nat) (h : ∀ q, (P q && Q q) = false) : cnt (fun q => P q || Q q) n = cnt P n + cnt Q n := by
  have := cnt_add P Q n
  have e : cnt (fun q => P q && Q q) n = 0 := by
    have h1 : cnt (fun q => P q && Q q) n = cnt (fun _ => false) n := cnt_congr fun q _ _ => h q
    rw [h1]
    clear this h1
    induction n with
    | zero => rfl
    | succ n ih => simp only [cnt]; simp [ih]
  omega

theorem total_cnt {b : Int} {l : List Sp} (h : Nf b l) (hb : 0 ≤ b) : total l = cnt (memb l) 1114112 := by
  induction l generalizing b with
  | nil =>
    have : cnt (memb []) 1114112 = 0 := by
      have h1 : ∀ n, cnt (memb []) n = 0 := fun n => by
        induction n with
        | zero => rfl
        | succ n ih => simp only [cnt, ih, memb_nil]; rfl
      exact h1 _
    rw [this]; rfl
  | cons x l ih =>
    obtain ⟨h1, h2, h3, h4⟩ := h
    have e : cnt (memb (x :: l)) 1114112 = cnt (fun q => decide (x.1 ≤ q) && decide (q ≤ x.2)) 1114112 + cnt (memb l) 1114112 := by
      rw [← cnt_or_apart]
      · rfl
      · intro q
        cases hm : memb l q with
        | false => simp
        | true => have := (h4.low hm).1; simp; omega
    rw [total, e, ih h4 (by omega), Int.natCast_add, cnt_span x.1 x.2 1114112 (by omega) (by omega)]
    rw [if_neg (by omega)]
    split <;> omega

theorem total_nonneg {b : Int} {l : List Sp} (h : Nf b l) : 0 ≤ total l := by
  induction l generalizing b with
  | nil => exact Int.le_refl _
  | cons x l ih => have := ih h.2.2.2; have := h.2.1; simp only [total]; omega

/-- the k-th number -/
def nthF : List Sp → Int → Option Int
  | [], _ => none
  | x :: l, k => if k < x.2 - x.1 + 1 then some (x.1 + k) else nthF l (k - (x.2 - x.1 + 1))

theorem nthF_some {b : Int} {l : List Sp} {k : Int} (h : Nf b l) (h0 : 0 ≤ k) : (∃ r, nthF l k = some r) ↔ k < total l := by
  induction l generalizing b k with
  | nil => simp [nthF, total]; omega
  | cons x l ih =>
    obtain ⟨h1, h2, h3, h4⟩ := h
    have ht := total_nonneg h4
    simp only [nthF, total]
    by_cases c : k < x.2 - x.1 + 1
    · simp [c]; omega
    · rw [if_neg c, ih h4 (by omega)]; omega

theorem cnt_memb_upto {b : Int} {l : List Sp} {k r : Int} (h : Nf b l) (hb : 0 ≤ b) (h0 : 0 ≤ k) (hr : nthF l k = some r) : memb l r = true ∧ (cnt (fun q => memb l q && decide (q ≤ r)) 1114112 : Int) = k + 1 := by
  induction l generalizing b k with
  | nil => simp [nthF] at hr
  | cons x l ih =>
    obtain ⟨h1, h2, h3, h4⟩ := h
    have e : cnt (fun q => memb (x :: l) q && decide (q ≤ r)) 1114112 = cnt (fun q => decide (x.1 ≤ q) && decide (q ≤ (if x.2 ≤ r then x.2 else r))) 1114112 + cnt (fun q => memb l q && decide (q ≤ r)) 1114112 := by
      rw [← cnt_or_apart]
      · refine cnt_congr fun q _ _ => ?_
        rw [memb_cons]
        apply bool_eq
        cases memb l q <;> by_cases c : x.2 ≤ r <;> simp [c] <;> omega
      · intro q
        cases hm : memb l q with
        | false => simp
        | true =>
          have := (h4.low hm).1
          by_cases c : x.2 ≤ r
          · simp [c]; omega
          · simp [c]; omega
    simp only [nthF] at hr
    by_cases c : k < x.2 - x.1 + 1
    · rw [if_pos c] at hr
      cases hr
      refine ⟨by rw [memb_cons]; simp; omega, ?_⟩
      have e2 : cnt (fun q => memb l q && decide (q ≤ x.1 + k)) 1114112 = 0 := by
        have h1 : cnt (fun q => memb l q && decide (q ≤ x.1 + k)) 1114112 = cnt (memb []) 1114112 := cnt_congr fun q _ _ => by
          rw [memb_nil]
          cases hm : memb l q with
          | false => rfl
          | true => have := (h4.low hm).1; simp; omega
        rw [h1]
        have := total_cnt (b := 0) (l := []) trivial (by omega)
        simp [total] at this
        omega
      rw [e, e2, Int.natCast_add, cnt_span _ _ 1114112 (by omega) (by split <;> omega)]
      split <;> (try split) <;> (try split) <;> omega
    · rw [if_neg c] at hr
      obtain ⟨i1, i2⟩ := ih h4 (by omega) (k := k - (x.2 - x.1 + 1)) (by omega) hr
      have hlow := (h4.low i1).1
      refine ⟨by rw [memb_cons, i1]; simp, ?_⟩
      rw [e, Int.natCast_add, i2, if_pos (by omega), cnt_span _ _ 1114112 (by omega) (by omega)]
      split <;> (try split) <;> omega

end Go.Proofs.YtlmmjefplbcapaaGreat.S

/-
  The plain mathematics of UTF-8 over lists of bytes: a text's first rune, joining texts, what is encoded is decoded, what is decoded and not spoilt is encoded; no program is named here.
-/
namespace Go.Proofs.YtlmmjefplbcapaaGreat.M

/-- the k-th byte, 0 beyond the end -/
def bt (L : List UInt8) (k : Nat) : Nat := (L[k]?.getD 0).toNat
/-- the first rune and its width -/
def d0 (L : List UInt8) : Nat × Nat := Lib.decodeN L.length (bt L 0) (bt L 1) (bt L 2) (bt L 3)

theorem bt_lt (L : List UInt8) (k : Nat) : bt L k < 256 := (L[k]?.getD 0).toNat_lt

theorem get!_eq (s : ByteArray) (i : Nat) : s.get! i = s.data.toList[i]?.getD 0 := by
  have h : s.get! i = s.data[i]! := rfl
  rw [h, getElem!_def, Array.getElem?_toList]
  cases s.data[i]? <;> rfl

theorem decode_d0 (s : ByteArray) (i : Nat) : Utf8.decode s i = d0 (s.data.toList.drop i) := by
  have hl : (s.data.toList.drop i).length = s.size - i := by rw [List.length_drop, Array.length_toList]; rfl
  rw [Lib.decode_at, d0, hl]
  simp only [bt, List.getElem?_drop, get!_eq, Nat.add_zero]

/-- runes and widths -/
def rl : Nat → List UInt8 → List (Nat × Nat)
  | 0, _ => []
  | n + 1, L => if L = [] then [] else d0 L :: rl n (L.drop (d0 L).2)

theorem rl_nil (n : Nat) : rl n [] = [] := by cases n <;> simp [rl]

theorem d0_width (L : List UInt8) (h : L ≠ []) : 1 ≤ (d0 L).2 ∧ (d0 L).2 ≤ 4 ∧ (d0 L).2 ≤ L.length := by
  have hl : 1 ≤ L.length := by cases L with
    | nil => exact absurd rfl h
    | cons => simp
  unfold d0 Lib.decodeN
  repeat' split
  all_goals simp only
  all_goals omega

theorem rl_fuel : ∀ (n m : Nat) (L : List UInt8), L.length ≤ n → L.length ≤ m → rl n L = rl m L
  | 0, m, L, hn, _ => by
    have : L = [] := List.eq_nil_of_length_eq_zero (by omega)
    subst this; rw [rl_nil, rl_nil]
  | n + 1, 0, L, _, hm => by
    have : L = [] := List.eq_nil_of_length_eq_zero (by omega)
    subst this; rw [rl_nil, rl_nil]
  | n + 1, m + 1, L, hn, hm => by
    by_cases h : L = []
    · simp [rl, h]
    · have hw := d0_width L h
      have hd : (L.drop (d0 L).2).length = L.length - (d0 L).2 := List.length_drop
      simp only [rl, h, if_false]
      rw [rl_fuel n m (L.drop (d0 L).2) (by omega) (by omega)]

def ru (L : List UInt8) : List (Nat × Nat) := rl L.length L

theorem ru_nil : ru [] = [] := rfl
theorem ru_cons (L : List UInt8) (h : L ≠ []) : ru L = d0 L :: ru (L.drop (d0 L).2) := by
  have hw := d0_width L h
  have hd : (L.drop (d0 L).2).length = L.length - (d0 L).2 := List.length_drop
  unfold ru
  obtain ⟨n, hn⟩ : ∃ n, L.length = n + 1 := ⟨L.length - 1, by omega⟩
  rw [hn]
  simp only [rl, h, if_false]
  rw [rl_fuel n (L.drop (d0 L).2).length _ (by omega) (by omega)]

/-- induction over a text, rune by rune -/
theorem ru_ind {P : List UInt8 → Prop} (h0 : P []) (h1 : ∀ L, L ≠ [] → P (L.drop (d0 L).2) → P L) : ∀ L, P L := by
  have : ∀ n (L : List UInt8), L.length ≤ n → P L := by
    intro n
    induction n with
    | zero => intro L hL; have : L = [] := List.eq_nil_of_length_eq_zero (by omega); subst this; exact h0
    | succ n ih =>
      intro L hL
      by_cases h : L = []
      · subst h; exact h0
      · have hw := d0_width L h
        exact h1 L h (ih _ (by rw [List.length_drop]; omega))
  exact fun L => this L.length L (Nat.le_refl _)

/-- the steps of the program's range are these -/
theorem steps_ru (s : ByteArray) : ∀ (b pos : Nat), s.size ≤ pos + b → (steps s b pos).map (fun x => x.2) = (ru (s.data.toList.drop pos)).map (fun x => x.1)
  | 0, pos, h => by
    have hl : (s.data.toList.drop pos).length = s.size - pos := by rw [List.length_drop, Array.length_toList]; rfl
    have : s.data.toList.drop pos = [] := List.eq_nil_of_length_eq_zero (by omega)
    rw [this]; rfl
  | b + 1, pos, h => by
    have hl : (s.data.toList.drop pos).length = s.size - pos := by rw [List.length_drop, Array.length_toList]; rfl
    by_cases hp : pos < s.size
    · have hw := width_pos s pos hp
      have hne : s.data.toList.drop pos ≠ [] := by intro e; rw [e] at hl; simp at hl; omega
      simp only [steps, hp, if_true, List.map_cons]
      rw [steps_ru s b _ (by omega), ru_cons _ hne, decode_d0, List.drop_drop, List.map_cons]
    · rw [steps_end s _ pos hp]
      have : s.data.toList.drop pos = [] := List.eq_nil_of_length_eq_zero (by omega)
      rw [this]; rfl

theorem rn_ru (s : ByteArray) : rn s = (ru s.data.toList).map (fun x => (x.1 : Int)) := by
  have h := steps_ru s s.size 0 (by omega)
  rw [List.drop_zero] at h
  have h2 := congrArg (List.map (fun n : Nat => (n : Int))) h
  rw [List.map_map, List.map_map] at h2
  exact h2

/-- a spoilt byte -/
def bad (x : Nat × Nat) : Bool := x.1 == 65533 && x.2 == 1
def sp (L : List UInt8) : Nat := ((ru L).filter bad).length

theorem sp_nil : sp [] = 0 := rfl
theorem sp_cons (L : List UInt8) (h : L ≠ []) : sp L = (if bad (d0 L) then 1 else 0) + sp (L.drop (d0 L).2) := by
  unfold sp
  rw [ru_cons L h, List.filter_cons]
  split <;> simp <;> omega

set_option maxHeartbeats 1000000 in
/-- what stands behind a whole rune does not matter -/
theorem d0_app (L M : List UInt8) (h : L ≠ []) (hb : bad (d0 L) = false) : d0 (L ++ M) = d0 L := by
  have hl : 1 ≤ L.length := by cases L with
    | nil => exact absurd rfl h
    | cons => simp
  have hb0 : bt (L ++ M) 0 = bt L 0 := by simp only [bt]; rw [List.getElem?_append_left (by omega)]
  have hb1 : 1 < L.length → bt (L ++ M) 1 = bt L 1 := fun h => by simp only [bt]; rw [List.getElem?_append_left h]
  have hb2 : 2 < L.length → bt (L ++ M) 2 = bt L 2 := fun h => by simp only [bt]; rw [List.getElem?_append_left h]
  have hb3 : 3 < L.length → bt (L ++ M) 3 = bt L 3 := fun h => by simp only [bt]; rw [List.getElem?_append_left h]
  have hlen : (L ++ M).length = L.length + M.length := List.length_append
  unfold d0 at hb ⊢
  rw [hb0, hlen]
  generalize bt L 0 = b0 at *
  unfold Lib.decodeN at hb ⊢
  by_cases c0 : b0 < 128
  · simp [c0]
  · by_cases c1 : b0 / 32 = 6 ∧ (1 < L.length ∧ bt L 1 / 64 = 2)
    · have e1 := hb1 c1.2.1
      have c1' : b0 / 32 = 6 ∧ (1 < L.length + M.length ∧ bt (L ++ M) 1 / 64 = 2) := ⟨c1.1, by omega, by rw [e1]; exact c1.2.2⟩
      simp only [c0, c1, c1', if_false, e1]
      simp
    · by_cases c2 : b0 / 16 = 14 ∧ (1 < L.length ∧ bt L 1 / 64 = 2) ∧ (2 < L.length ∧ bt L 2 / 64 = 2)
      · have e1 := hb1 c2.2.1.1
        have e2 := hb2 c2.2.2.1
        have n1 : ¬ (b0 / 32 = 6 ∧ (1 < L.length + M.length ∧ bt (L ++ M) 1 / 64 = 2)) := by omega
        have c2' : b0 / 16 = 14 ∧ (1 < L.length + M.length ∧ bt (L ++ M) 1 / 64 = 2) ∧ (2 < L.length + M.length ∧ bt (L ++ M) 2 / 64 = 2) := ⟨c2.1, ⟨by omega, by rw [e1]; exact c2.2.1.2⟩, by omega, by rw [e2]; exact c2.2.2.2⟩
        rw [if_neg c0, if_neg n1, if_pos c2', if_neg c0, if_neg c1, if_pos c2, e1, e2]
      · by_cases c3 : b0 / 8 = 30 ∧ (1 < L.length ∧ bt L 1 / 64 = 2) ∧ (2 < L.length ∧ bt L 2 / 64 = 2) ∧ (3 < L.length ∧ bt L 3 / 64 = 2)
        · have e1 := hb1 c3.2.1.1
          have e2 := hb2 c3.2.2.1.1
          have e3 := hb3 c3.2.2.2.1
          have n1 : ¬ (b0 / 32 = 6 ∧ (1 < L.length + M.length ∧ bt (L ++ M) 1 / 64 = 2)) := by omega
          have n2 : ¬ (b0 / 16 = 14 ∧ (1 < L.length + M.length ∧ bt (L ++ M) 1 / 64 = 2) ∧ (2 < L.length + M.length ∧ bt (L ++ M) 2 / 64 = 2)) := by omega
          have c3' : b0 / 8 = 30 ∧ (1 < L.length + M.length ∧ bt (L ++ M) 1 / 64 = 2) ∧ (2 < L.length + M.length ∧ bt (L ++ M) 2 / 64 = 2) ∧ (3 < L.length + M.length ∧ bt (L ++ M) 3 / 64 = 2) :=
            ⟨c3.1, ⟨by omega, by rw [e1]; exact c3.2.1.2⟩, ⟨by omega, by rw [e2]; exact c3.2.2.1.2⟩, by omega, by rw [e3]; exact c3.2.2.2.2⟩
          rw [if_neg c0, if_neg n1, if_neg n2, if_pos c3', if_neg c0, if_neg c1, if_neg c2, if_pos c3, e1, e2, e3]
        · exfalso
          rw [if_neg c0, if_neg c1, if_neg c2, if_neg c3] at hb
          simp [bad] at hb

/-- TWO TEXTS, of which the first one is whole -/
theorem ru_app (M : List UInt8) : ∀ L, sp L = 0 → ru (L ++ M) = ru L ++ ru M := by
  refine ru_ind (by simp [ru_nil]) ?_
  intro L h ih hs
  rw [sp_cons L h] at hs
  have hb : bad (d0 L) = false := by
    cases e : bad (d0 L) with
    | false => rfl
    | true => rw [e] at hs; simp at hs
  have hw := d0_width L h
  have hd := d0_app L M h hb
  have hne : L ++ M ≠ [] := by simp [h]
  rw [ru_cons _ hne, hd, ru_cons L h, List.drop_append_of_le_length hw.2.2, ih (by omega), List.cons_append]

theorem sp_app (L M : List UInt8) (h : sp L = 0) : sp (L ++ M) = sp M := by
  have h2 := ru_app M L h
  unfold sp at h ⊢
  rw [h2, List.filter_append, List.length_append, h, Nat.zero_add]

end Go.Proofs.YtlmmjefplbcapaaGreat.M
