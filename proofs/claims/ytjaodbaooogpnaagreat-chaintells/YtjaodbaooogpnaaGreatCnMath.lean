/-
  A script that is handed in.
-/
import Derived.Test.YtjaodbaooogpnaaGreatYFrame
import Derived.Test.YtjaodbaooogpnaaGreatMFrame
namespace Go.Proofs.YtjaodbaooogpnaaGreat
open Go.ChangeShapes Go.WideShapes Go.ChangeAt Go.RowKit
set_option linter.unusedVariables false
set_option linter.unusedSimpArgs false

theorem Tryz.bytesPass : Tryz.prog.bytesOf 48 = 40 := by kernel_rfl
theorem Tryz.bytesSpan : Tryz.prog.bytesOf 71 = 8 := by kernel_rfl
set_option maxRecDepth 100000 in
theorem rules_cells {H : Type} {enc : TypeId × Value → H} {W : World} {fuel : Nat} {cs : List Value} {x : DataW H × List MemPlace} (h : DataW.trod enc Tryz.prog W 0 (fun _ => true) true fuel 46 cs = some x) (hw : ∀ n ∈ x.1.weights Tryz.prog 46, n ≤ reachBytes) :
    ∃ v, cs = [v] ∧ ∃ l : List K.Rule, V.Rus W v l := by
  have ce : Tryz.prog.cellsOf 77 = 7 := by kernel_rfl
  rcases Go.Deep.open_slice Tryz.underlying46 h with ⟨hcs, hx⟩ | ⟨a, len, cap, m, n, D, Pl, hcs, _, hl, hm, hmm, hx, hcell⟩
  · exact ⟨_, hcs, [], V.Rus.nil W⟩
  · refine ⟨_, hcs, ?_⟩
    subst hx
    simp only [if_true] at hmm
    subst hmm
    have hlen : len ≤ 140737488355328 := by
      have h1 := hw ((((List.range len).map D).length + ((List.range (m - len)).map fun j => D (len + j)).length) * 112) (by
        simp only [DataW.weights, Tryz.underlying46, Tryz.bytesRule]
        exact List.mem_cons_self)
      simp only [List.length_map, List.length_range, reachBytes] at h1
      omega
    have each : ∀ i, i < len → ∃ q : K.Rule × Array Value, K.RuIs W (.agg q.2) q.1 ∧ q.2.size = 7 ∧ ∀ j u, q.2[j]? = some u → W.cell? (a.add (i * 7 + j)) = some u := fun i hi => by
      obtain ⟨cs', h1, h2⟩ := hcell i (by omega)
      rw [ce] at h1
      obtain ⟨_, hlen', hcl⟩ := World.cells?_some h1
      match cs', hlen' with
      | [v0, v1, v2, v3, v4, v5, v6], _ =>
        obtain ⟨p, hp⟩ := rule_cells h2 fun n hn => hw n (by
          simp only [DataW.weights, Tryz.underlying46]
          refine List.mem_cons_of_mem _ (List.mem_append_left _ ?_)
          exact K.weights_all (d := D i) (List.mem_map.2 ⟨i, by simpa using hi, rfl⟩) _ hn)
        refine ⟨(p, #[v0, v1, v2, v3, v4, v5, v6]), hp, rfl, fun j u hj => ?_⟩
        have hj7 : j < 7 := (Array.getElem?_eq_some_iff.1 hj).1
        have e := hcl j hj7
        rw [Go.Deep.add_add] at e
        rw [e]
        have : ([v0, v1, v2, v3, v4, v5, v6] : List Value)[j]? = some u := by simpa using hj
        simpa using this
    have hne : Inhabited (K.Rule × Array Value) := ⟨(⟨false, false, [], [], [], [], 0⟩, #[])⟩
    obtain ⟨q, hq⟩ := Go.Deep.choose_lt each
    refine ⟨(List.range len).map fun i => (q i).1, some a, m, by simp, by simpa using hlen, fun hne => ?_⟩
    have h0 : 0 < len := by
      cases len with
      | zero => simp at hne
      | succ => omega
    obtain ⟨b, off, spot⟩ := a
    have hsp : spot = none := by
      obtain ⟨_, h7, hc⟩ := hq 0 h0
      have := hc 0 ((q 0).2[0]'(by omega)) (by simp)
      simpa [Addr.add] using World.cell?_spot this
    subst hsp
    refine ⟨b, off, rfl, fun j e hj => ?_⟩
    have hj2 : j < len := by
      have := (List.getElem?_eq_some_iff.1 hj).1
      simpa using this
    have hej : (q j).1 = e := by
      rw [List.getElem?_map, List.getElem?_range hj2] at hj
      simpa using hj
    obtain ⟨hP, _, hc⟩ := hq j hj2
    rw [hej] at hP
    have hP0 := hP
    obtain ⟨bo, bc, so, sc, ao, ac, tgo, tc, he, _⟩ := hP
    have he2 := Value.agg.inj he
    rw [he2] at hP0 hc
    have cc : ∀ (i : Nat) (u : Value), (#[.bool e.start, .bool e.fin, .slice bo e.before.length bc, .slice so e.source.length sc, .slice ao e.after.length ac, .slice tgo e.target.length tc, .int .i64 e.cursor] : Array Value)[i]? = some u → W.cell? ⟨b, off + j * 7 + i, none⟩ = some u := fun i u hi => by
      have := hc i u hi
      rw [L.addr_add, ← Nat.add_assoc] at this
      exact this
    exact ⟨bo, bc, so, sc, ao, ac, tgo, tc, cc 0 _ rfl, cc 1 _ rfl, cc 2 _ rfl, cc 3 _ rfl, cc 4 _ rfl, cc 5 _ rfl, cc 6 _ rfl, hP0⟩

set_option maxRecDepth 100000 in
theorem passes_cells {H : Type} {enc : TypeId × Value → H} {W : World} {fuel : Nat} {cs : List Value} {x : DataW H × List MemPlace} (h : DataW.trod enc Tryz.prog W 0 (fun _ => true) true fuel 23 cs = some x) (hw : ∀ n ∈ x.1.weights Tryz.prog 23, n ≤ reachBytes) :
    ∃ ao c l, cs = [.slice ao (List.length l) c] ∧ V.Pas W (.slice ao l.length c) l := by
  obtain ⟨f0, f1, hu, o0, o1, t0, t1⟩ : ∃ f0 f1 : Field, Tryz.prog.underlying 48 = some (.struct #[f0, f1]) ∧ f0.offset = 0 ∧ f1.offset = 1 ∧ f0.type = 9 ∧ f1.type = 46 := ⟨_, _, Tryz.underlying48, rfl, rfl, rfl, rfl⟩
  have ce : Tryz.prog.cellsOf 48 = 2 := by kernel_rfl
  have ci : Tryz.prog.cellsOf 9 = 1 := by kernel_rfl
  have ci2 : Tryz.prog.cellsOf 46 = 1 := by kernel_rfl
  rcases Go.Deep.open_slice Tryz.underlying23 h with ⟨hcs, hx⟩ | ⟨a, len, cap, m, n, D, Pl, hcs, _, hl, hm, hmm, hx, hcell⟩
  · exact ⟨none, 0, [], hcs, V.Pas.nil W⟩
  · subst hx
    simp only [if_true] at hmm
    subst hmm
    have hlen : len ≤ 140737488355328 := by
      have h1 := hw ((((List.range len).map D).length + ((List.range (m - len)).map fun j => D (len + j)).length) * 40) (by
        simp only [DataW.weights, Tryz.underlying23, Tryz.bytesPass]
        exact List.mem_cons_self)
      simp only [List.length_map, List.length_range, reachBytes] at h1
      omega
    have each : ∀ i, i < len → ∃ q : V.Pass × Option Addr × Nat, W.cell? (a.add (i * 2)) = some (.string q.1.name) ∧ W.cell? (a.add (i * 2 + 1)) = some (.slice q.2.1 q.1.rules.length q.2.2) ∧ V.Rus W (.slice q.2.1 q.1.rules.length q.2.2) q.1.rules ∧ q.1.name.size ≤ 140737488355328 := fun i hi => by
      obtain ⟨cs', h1, h2⟩ := hcell i (by omega)
      rw [ce] at h1
      obtain ⟨_, hlen', hcl⟩ := World.cells?_some h1
      obtain ⟨xs, k, hk, hxy, _, hxl, hfl⟩ := DataW.trod_struct hu h2
      match xs, hxl, cs', hlen' with
      | [y0, y1], _, [v0, v1], _ =>
        have g0 := hfl 0 f0 rfl
        have g1 := hfl 1 f1 rfl
        simp [o0, o1, t0, t1, ci, ci2] at g0 g1
        have e0 := hcl 0 (by omega)
        have e1 := hcl 1 (by omega)
        rw [Go.Deep.add_add] at e0 e1
        have hD : D i = .agg [y0.1, y1.1] := by
          have := congrArg Prod.fst hxy
          simpa using this
        have hwe : ∀ (j : Nat) (t : TypeId) (d : DataW H), ([9, 46] : List TypeId)[j]? = some t → ([y0.1, y1.1] : List (DataW H))[j]? = some d → ∀ n ∈ d.weights Tryz.prog t, n ≤ reachBytes := fun j t d h1 h2 n hn => hw n (by
          simp only [DataW.weights, Tryz.underlying23]
          refine List.mem_cons_of_mem _ (List.mem_append_left _ ?_)
          refine K.weights_all (d := D i) (List.mem_map.2 ⟨i, by simpa using hi, rfl⟩) _ ?_
          rw [hD]
          simp only [DataW.weights, hu]
          refine DataW.weights_mem_each (j := j) (t := t) (d := d) ?_ h2 n hn
          simpa [t0, t1] using h1)
        obtain ⟨nm, c0, hy0, _⟩ := DataW.trod_string Tryz.underlying9 g0
        have hn := hwe 0 _ _ rfl rfl nm.size (by rw [hy0]; simp [DataW.weights])
        obtain ⟨v, c1, rl, hR⟩ := rules_cells g1 (hwe 1 _ _ rfl rfl)
        obtain ⟨ra, rc, rfl⟩ := hR.len
        simp only [List.cons.injEq, and_true] at c0 c1
        subst c0 c1
        exact ⟨(⟨nm, rl⟩, ra, rc), by simpa using e0, by simpa using e1, hR, by unfold reachBytes at hn; simp only; omega⟩
    have hne : Inhabited (V.Pass × Option Addr × Nat) := ⟨(⟨⟨#[]⟩, []⟩, none, 0)⟩
    obtain ⟨q, hq⟩ := Go.Deep.choose_lt each
    refine ⟨some a, m, (List.range len).map fun i => (q i).1, by simp [hcs], some a, m, by simp, by simpa using hlen, fun hne => ?_⟩
    have h0 : 0 < len := by
      cases len with
      | zero => simp at hne
      | succ => omega
    obtain ⟨b, off, spot⟩ := a
    have c0 := (hq 0 h0).1
    have hsp : spot = none := by simpa [Addr.add] using World.cell?_spot c0
    subst hsp
    refine ⟨b, off, rfl, fun j p hj => ?_⟩
    have hj2 : j < len := by
      have := (List.getElem?_eq_some_iff.1 hj).1
      simpa using this
    have hej : (q j).1 = p := by
      rw [List.getElem?_map, List.getElem?_range hj2] at hj
      simpa using hj
    obtain ⟨h1, h2, h3, h4⟩ := hq j hj2
    rw [L.addr_add] at h1 h2
    rw [← Nat.add_assoc] at h2
    rw [hej] at h1 h2 h3 h4
    exact ⟨h1, h4, _, _, h2, h3⟩

theorem spans_few {H : Type} {enc : TypeId × Value → H} {W : World} {fuel : Nat} {ao : Option Addr} {n c : Nat} {x : DataW H × List MemPlace} (h : DataW.trod enc Tryz.prog W 0 (fun _ => true) true fuel 22 [.slice ao n c] = some x) (hw : ∀ n ∈ x.1.weights Tryz.prog 22, n ≤ reachBytes) : n ≤ 140737488355328 := by
  rcases Go.Deep.open_slice Tryz.underlying22 h with ⟨hcs, hx⟩ | ⟨a, len, cap, m, k, D, Pl, hcs, _, hl, hm, hmm, hx, hcell⟩
  · simp at hcs
    omega
  · simp at hcs
    obtain ⟨_, rfl, rfl⟩ := hcs
    subst hx
    simp only [if_true] at hmm
    subst hmm
    have h1 := hw ((((List.range n).map D).length + ((List.range (m - n)).map fun j => D (n + j)).length) * 8) (by
      simp only [DataW.weights, Tryz.underlying22, Tryz.bytesSpan]
      exact List.mem_cons_self)
    simp only [List.length_map, List.length_range, reachBytes] at h1
    omega

set_option maxRecDepth 100000 in
theorem script_cells {H : Type} {enc : TypeId × Value → H} {W : World} {fuel : Nat} {v0 v1 v2 : Value} {x : DataW H × List MemPlace} (h : DataW.trod enc Tryz.prog W 0 (fun _ => true) true fuel 25 [v0, v1, v2] = some x) (hw : ∀ n ∈ x.1.weights Tryz.prog 25, n ≤ reachBytes) :
    ∃ s, V.ScIs W (.agg #[v0, v1, v2]) s ∧ S.Fit s.only := by
  obtain ⟨f0, f1, f2, hu, o0, o1, o2, t0, t1, t2⟩ : ∃ f0 f1 f2 : Field, Tryz.prog.underlying 25 = some (.struct #[f0, f1, f2]) ∧ f0.offset = 0 ∧ f1.offset = 1 ∧ f2.offset = 2 ∧ f0.type = 4 ∧ f1.type = 22 ∧ f2.type = 23 := ⟨_, _, _, Tryz.underlying25, rfl, rfl, rfl, rfl, rfl, rfl⟩
  have ci : Tryz.prog.cellsOf 4 = 1 := by kernel_rfl
  have ci2 : Tryz.prog.cellsOf 22 = 1 := by kernel_rfl
  have ci3 : Tryz.prog.cellsOf 23 = 1 := by kernel_rfl
  obtain ⟨xs, k, hk, hxy, _, hxl, hfl⟩ := DataW.trod_struct hu h
  match xs, hxl with
  | [y0, y1, y2], _ =>
    have g0 := hfl 0 f0 rfl
    have g1 := hfl 1 f1 rfl
    have g2 := hfl 2 f2 rfl
    simp [o0, o1, o2, t0, t1, t2, ci, ci2, ci3] at g0 g1 g2
    have hD : x.1 = .agg [y0.1, y1.1, y2.1] := by
      have := congrArg Prod.fst hxy
      simpa using this
    have hwe : ∀ (j : Nat) (t : TypeId) (d : DataW H), ([4, 22, 23] : List TypeId)[j]? = some t → ([y0.1, y1.1, y2.1] : List (DataW H))[j]? = some d → ∀ n ∈ d.weights Tryz.prog t, n ≤ reachBytes := fun j t d h1 h2 n hn => hw n (by
      rw [hD]
      simp only [DataW.weights, hu]
      refine DataW.weights_mem_each (j := j) (t := t) (d := d) ?_ h2 n hn
      simpa [t0, t1, t2] using h1)
    obtain ⟨b0, c0, _⟩ := DataW.trod_bool Tryz.underlying4 g0
    obtain ⟨u1, l1, c1, ⟨ao1, cc1, e1⟩, r1, ft1⟩ := set_cells g1
    obtain ⟨a2, n2, l2, c2, r2⟩ := passes_cells g2 (hwe 2 _ _ rfl rfl)
    simp only [List.cons.injEq, and_true] at c0 c1 c2
    subst c0 c1 c2
    subst e1
    have hfew := spans_few g1 (hwe 1 _ _ rfl rfl)
    exact ⟨⟨b0, l1, l2⟩, ⟨ao1, cc1, a2, n2, rfl, r1, hfew, r2⟩, ft1⟩
end Go.Proofs.YtjaodbaooogpnaaGreat

/-
  What rules make of a text, in plain lists.
-/
namespace Go.Proofs.YtjaodbaooogpnaaGreat.K

def firstR : Nat → List Rule → Int × Int
  | _, [] => (0, 0)
  | k, r :: l => if ruleE r = 0 then firstR (k + 1) l else (ruleE r, (k : Int))
/-- what is wrong with rules, and at which one -/
def rulesF (l : List Rule) : Int × Int := if 200 < l.length then (5, 0) else firstR 0 l
def checkF (l : List Rule) (t : List Int) : Int × Int := if (rulesF l).1 = 0 then (textE t, 0) else rulesF l

theorem firstR_drop {l : List Rule} {k : Nat} {r : Rule} (h : l[k]? = some r) : firstR k (l.drop k) = if ruleE r = 0 then firstR (k + 1) (l.drop (k + 1)) else (ruleE r, (k : Int)) := by
  have hlt := (List.getElem?_eq_some_iff.1 h).1
  rw [List.drop_eq_getElem_cons hlt]
  have : l[k] = r := by rw [List.getElem?_eq_getElem hlt] at h; exact Option.some.inj h
  rw [this]; rfl
theorem firstR_zero {l : List Rule} : ∀ {k : Nat}, (firstR k l).1 = 0 → ∀ r ∈ l, ruleE r = 0 := by
  induction l with
  | nil => intro k _ r hr; cases hr
  | cons x l ih =>
    intro k h r hr
    rw [firstR] at h
    by_cases hx : ruleE x = 0
    · rw [if_pos hx] at h
      rcases List.mem_cons.1 hr with rfl | hr
      · exact hx
      · exact ih h r hr
    · rw [if_neg hx] at h; exact absurd h hx
theorem firstR_at {l : List Rule} : ∀ {k : Nat}, (firstR k l).1 = 0 → firstR k l = (0, 0) := by
  induction l with
  | nil => intro k _; rfl
  | cons x l ih =>
    intro k h
    rw [firstR] at h ⊢
    by_cases hx : ruleE x = 0
    · rw [if_pos hx] at h ⊢; exact ih h
    · rw [if_neg hx] at h; exact absurd h hx
theorem rulesF_zero {l : List Rule} (h : (rulesF l).1 = 0) : l.length ≤ 200 ∧ (∀ r ∈ l, ruleE r = 0) ∧ rulesF l = (0, 0) := by
  unfold rulesF at h ⊢
  by_cases h1 : 200 < l.length
  · rw [if_pos h1] at h; exact absurd h (by decide)
  · rw [if_neg h1] at h ⊢; exact ⟨by omega, firstR_zero h, firstR_at h⟩
theorem checkF_zero {l : List Rule} {t : List Int} (h : (checkF l t).1 = 0) : (rulesF l).1 = 0 ∧ textE t = 0 ∧ checkF l t = (0, 0) := by
  unfold checkF at h ⊢
  by_cases h1 : (rulesF l).1 = 0
  · rw [if_pos h1] at h ⊢; exact ⟨h1, h, by rw [show textE t = 0 from h]⟩
  · rw [if_neg h1] at h; exact absurd h h1

/-- the first rule that matches -/
def whichN (t : List Int) (k : Int) : Nat → List Rule → Int
  | _, [] => -1
  | i, r :: l => if matchB r t k = true then (i : Int) else whichN t k (i + 1) l
def which (l : List Rule) (t : List Int) (k : Int) : Int := whichN t k 0 l
theorem whichN_drop {t : List Int} {k : Int} {l : List Rule} {i : Nat} {r : Rule} (h : l[i]? = some r) : whichN t k i (l.drop i) = if matchB r t k = true then (i : Int) else whichN t k (i + 1) (l.drop (i + 1)) := by
  have hlt := (List.getElem?_eq_some_iff.1 h).1
  rw [List.drop_eq_getElem_cons hlt]
  have : l[i] = r := by rw [List.getElem?_eq_getElem hlt] at h; exact Option.some.inj h
  rw [this]; rfl
theorem whichN_is {t : List Int} {k : Int} {l : List Rule} : ∀ {i : Nat}, whichN t k i l = -1 ∨ ∃ (j : Nat) (r : Rule), l[j]? = some r ∧ matchB r t k = true ∧ whichN t k i l = ((i + j : Nat) : Int) := by
  induction l with
  | nil => intro i; exact .inl rfl
  | cons x l ih =>
    intro i
    rw [whichN]
    by_cases hx : matchB x t k = true
    · rw [if_pos hx]; exact .inr ⟨0, x, rfl, hx, by simp⟩
    · rw [if_neg hx]
      rcases ih (i := i + 1) with h | ⟨j, r, h1, h2, h3⟩
      · exact .inl h
      · exact .inr ⟨j + 1, r, by simpa using h1, h2, by rw [h3]; omega⟩
theorem which_is {l : List Rule} {t : List Int} {k : Int} : which l t k = -1 ∨ ∃ (j : Nat) (r : Rule), l[j]? = some r ∧ matchB r t k = true ∧ which l t k = (j : Int) := by
  rcases whichN_is (t := t) (k := k) (l := l) (i := 0) with h | ⟨j, r, h1, h2, h3⟩
  · exact .inl h
  · exact .inr ⟨j, r, h1, h2, by unfold which; rw [h3]; omega⟩

def noRule : Rule := ⟨false, false, [], [], [], [], 0⟩
def restOf (r : Rule) (rest : List Int) : List Int := r.target ++ rest.drop r.source.length
/-- the run: what is wrong, the text, the steps, how often something was put -/
def play (l : List Rule) : Nat → List Int → List Int → Int → Int → Int × List Int × Int × Int
  | 0, done, rest, s, p => if rest.length = 0 then (0, done, s, p) else (9, [], 0, 0)
  | left + 1, done, rest, s, p =>
    if rest.length = 0 then (0, done, s, p)
    else if which l (done ++ rest) done.length < 0 then play l left (done ++ rest.take 1) (rest.drop 1) (s + 1) p
    else
      let r := (l[(which l (done ++ rest) done.length).toNat]?).getD noRule
      if 4000 < done.length + (restOf r rest).length then (4, [], 0, 0)
      else play l left (done ++ (restOf r rest).take r.cursor.toNat) ((restOf r rest).drop r.cursor.toNat) (s + 1) (p + 1)
theorem play_end {l : List Rule} {left : Nat} {done rest : List Int} {s p : Int} (h : rest.length = 0) : play l left done rest s p = (0, done, s, p) := by
  cases left <;> rw [play, if_pos h]
theorem play_out {l : List Rule} {done rest : List Int} {s p : Int} (h : ¬ rest.length = 0) : play l 0 done rest s p = (9, [], 0, 0) := by
  rw [play, if_neg h]
theorem play_on {l : List Rule} {left : Nat} {done rest : List Int} {s p : Int} (h : ¬ rest.length = 0) (hk : which l (done ++ rest) done.length = -1) : play l (left + 1) done rest s p = play l left (done ++ rest.take 1) (rest.drop 1) (s + 1) p := by
  rw [play, if_neg h, if_pos (by rw [hk]; decide)]
theorem play_much {l : List Rule} {left : Nat} {done rest : List Int} {s p : Int} {j : Nat} {r : Rule} (h : ¬ rest.length = 0) (hk : which l (done ++ rest) done.length = (j : Int)) (hr : l[j]? = some r) (hm : 4000 < done.length + (restOf r rest).length) : play l (left + 1) done rest s p = (4, [], 0, 0) := by
  rw [play, if_neg h, if_neg (by rw [hk]; omega), hk, Int.toNat_natCast, hr]
  simp only [Option.getD_some]
  rw [if_pos hm]
theorem play_put {l : List Rule} {left : Nat} {done rest : List Int} {s p : Int} {j : Nat} {r : Rule} (h : ¬ rest.length = 0) (hk : which l (done ++ rest) done.length = (j : Int)) (hr : l[j]? = some r) (hm : ¬ 4000 < done.length + (restOf r rest).length) : play l (left + 1) done rest s p = play l left (done ++ (restOf r rest).take r.cursor.toNat) ((restOf r rest).drop r.cursor.toNat) (s + 1) (p + 1) := by
  rw [play, if_neg h, if_neg (by rw [hk]; omega), hk, Int.toNat_natCast, hr]
  simp only [Option.getD_some]
  rw [if_neg hm]
/-- a rule that matches where the rest begins: its source is there -/
theorem fits {r : Rule} {done rest : List Int} (hE : ruleE r = 0) (hm : matchB r (done ++ rest) done.length = true) : r.source.length ≤ rest.length := by
  have h := match_in (ruleE_zero hE).2.2.2.1 hm
  rw [List.length_append] at h
  omega
theorem restOf_length {r : Rule} {rest : List Int} : (restOf r rest).length = r.target.length + (rest.length - r.source.length) := by
  unfold restOf; simp
theorem putL_rest {r : Rule} {done rest : List Int} : putL r (done ++ rest) done.length = done ++ restOf r rest := by
  unfold putL restOf
  rw [Int.toNat_natCast, List.take_left, List.drop_append, List.append_assoc]
  simp
/-- all that Run answers -/
def runF (l : List Rule) (t : List Int) : (List Int × Int × Int) × Int × Int :=
  if (checkF l t).1 = 0 then ((play l (8 * t.length + 40) [] t 0 0).2, (play l (8 * t.length + 40) [] t 0 0).1, 0) else (([], 0, 0), checkF l t)

end Go.Proofs.YtjaodbaooogpnaaGreat.K

/-
  What scripts make of texts, in plain lists.
-/
namespace Go.Proofs.YtjaodbaooogpnaaGreat.Cn

/-- by how much the great letter is less -/
def lessF (r : Int) : Int :=
  if (97 ≤ r ∧ r ≤ 122 ∨ 224 ≤ r ∧ r ≤ 246) ∨ 248 ≤ r ∧ r ≤ 254 then 32
  else if (945 ≤ r ∧ r ≤ 961 ∨ 963 ≤ r ∧ r ≤ 969) ∨ 1072 ≤ r ∧ r ≤ 1103 then 32
  else if 1104 ≤ r ∧ r ≤ 1119 then 80 else 0
def up (r : Int) : Int := r - lessF r
def low (r : Int) : Int := if lessF (r + 32) = 32 then r + 32 else if lessF (r + 80) = 80 then r + 80 else r

def passE (p : V.Pass) : Int :=
  if p.name.toList = [] then (K.rulesF p.rules).1 else if R.passes p.name = true then (if 0 < p.rules.length then 8 else 0) else 7
def firstP : Nat → List V.Pass → Int × Int
  | _, [] => (0, 0)
  | k, p :: l => if passE p = 0 then firstP (k + 1) l else (passE p, (k : Int))
/-- what is wrong with a script -/
def wrongF (s : V.Script) : Int × Int :=
  if s.has = true ∧ ¬ S.wrongE s.only = 0 then (S.wrongE s.only, 0) else if 60 < s.passes.length then (5, 0) else firstP 0 s.passes
theorem firstP_drop {l : List V.Pass} {k : Nat} {p : V.Pass} (h : l[k]? = some p) : firstP k (l.drop k) = if passE p = 0 then firstP (k + 1) (l.drop (k + 1)) else (passE p, (k : Int)) := by
  have hlt := (List.getElem?_eq_some_iff.1 h).1
  rw [List.drop_eq_getElem_cons hlt]
  have : l[k] = p := by rw [List.getElem?_eq_getElem hlt] at h; exact Option.some.inj h
  rw [this]; rfl
theorem firstP_zero {l : List V.Pass} : ∀ {k : Nat}, (firstP k l).1 = 0 → (∀ p ∈ l, passE p = 0) ∧ firstP k l = (0, 0) := by
  induction l with
  | nil => intro k _; exact ⟨fun p hp => by (cases hp), rfl⟩
  | cons x l ih =>
    intro k h
    rw [firstP] at h ⊢
    by_cases hx : passE x = 0
    · rw [if_pos hx] at h ⊢
      refine ⟨fun p hp => ?_, (ih h).2⟩
      rcases List.mem_cons.1 hp with rfl | hp
      · exact hx
      · exact (ih h).1 p hp
    · rw [if_neg hx] at h; exact absurd h hx
theorem wrongF_zero {s : V.Script} (h : (wrongF s).1 = 0) : (s.has = true → S.wrongE s.only = 0) ∧ s.passes.length ≤ 60 ∧ (∀ p ∈ s.passes, passE p = 0) ∧ wrongF s = (0, 0) := by
  unfold wrongF at h ⊢
  by_cases h1 : s.has = true ∧ ¬ S.wrongE s.only = 0
  · rw [if_pos h1] at h; exact absurd h h1.2
  · rw [if_neg h1] at h ⊢
    by_cases h2 : 60 < s.passes.length
    · rw [if_pos h2] at h; exact absurd h (by decide)
    · rw [if_neg h2] at h ⊢
      refine ⟨fun hh => Classical.byContradiction fun h3 => h1 ⟨hh, h3⟩, by omega, (firstP_zero h).1, (firstP_zero h).2⟩

/-- what rules make of a text -/
abbrev Pl := List K.Rule → List Int → List Int × Int
def passF (pl : Pl) (p : V.Pass) (x : List Int) : List Int × Int :=
  if p.name.toList = [] then pl p.rules x
  else if p.name.toList = [117, 112, 112, 101, 114] then (x.map up, 0)
  else if p.name.toList = [108, 111, 119, 101, 114] then (x.map low, 0)
  else if p.name.toList = [110, 117, 108, 108] then (x, 0) else ([], 0)
def thru (pl : Pl) : Nat → List V.Pass → List Int → List Int × Int × Int
  | _, [], x => (x, 0, 0)
  | k, p :: l, x => if (passF pl p x).2 = 0 then thru pl (k + 1) l (passF pl p x).1 else ([], (passF pl p x).2, (k : Int))
theorem thru_drop {pl : Pl} {l : List V.Pass} {k : Nat} {p : V.Pass} {x : List Int} (h : l[k]? = some p) : thru pl k (l.drop k) x = if (passF pl p x).2 = 0 then thru pl (k + 1) (l.drop (k + 1)) (passF pl p x).1 else ([], (passF pl p x).2, (k : Int)) := by
  have hlt := (List.getElem?_eq_some_iff.1 h).1
  rw [List.drop_eq_getElem_cons hlt]
  have : l[k] = p := by rw [List.getElem?_eq_getElem hlt] at h; exact Option.some.inj h
  rw [this]; rfl
/-- a text that may be worked on -/
def Tx (x : List Int) : Prop := x.length ≤ 4000 ∧ K.allR x = true
theorem Tx.nil : Tx [] := ⟨by simp, rfl⟩
theorem text_tx {t : List Int} : K.textE t = 0 ↔ Tx t := by
  unfold K.textE Tx
  by_cases h : 4000 < t.length
  · rw [if_pos h]; exact ⟨fun h => absurd h (by decide), fun h => by omega⟩
  · rw [if_neg h]
    cases K.allR t <;> simp <;> omega
theorem Tx.sub {x y : List Int} (h : Tx x) (hl : y.length ≤ x.length) (hs : ∀ r ∈ y, r ∈ x) : Tx y :=
  ⟨Nat.le_trans hl h.1, List.all_eq_true.2 fun r hr => List.all_eq_true.1 h.2 r (hs r hr)⟩
theorem Tx.range {x : List Int} (h : Tx x) : ∀ r ∈ x, 0 ≤ r ∧ r ≤ 1114111 := fun r hr => by
  have := List.all_eq_true.1 h.2 r hr
  simp [M.right] at this
  omega
theorem less_cases (r : Int) : lessF r = 0 ∨ (lessF r = 32 ∧ 97 ≤ r ∧ r ≤ 1103) ∨ (lessF r = 80 ∧ 1104 ≤ r ∧ r ≤ 1119) := by
  unfold lessF; repeat' split
  all_goals omega
theorem up_right {r : Int} (h : M.right r = true) : M.right (up r) = true := by
  simp [M.right] at h ⊢
  unfold up
  have := less_cases r
  omega
theorem low_right {r : Int} (h : M.right r = true) : M.right (low r) = true := by
  simp [M.right] at h ⊢
  unfold low
  have := less_cases (r + 32)
  have := less_cases (r + 80)
  repeat' split
  all_goals omega
theorem Tx.map {x : List Int} {f : Int → Int} (hf : ∀ r, M.right r = true → M.right (f r) = true) (h : Tx x) : Tx (x.map f) :=
  ⟨by simpa using h.1, List.all_eq_true.2 fun r hr => by
    obtain ⟨q, hq, rfl⟩ := List.mem_map.1 hr
    exact hf q (List.all_eq_true.1 h.2 q hq)⟩
theorem passF_tx {pl : Pl} (hpl : ∀ l x, Tx (pl l x).1) {p : V.Pass} {x : List Int} (hx : Tx x) : Tx (passF pl p x).1 := by
  unfold passF
  repeat' split
  · exact hpl _ _
  · exact hx.map fun r => up_right
  · exact hx.map fun r => low_right
  · exact hx
  · exact Tx.nil
theorem thru_tx {pl : Pl} (hpl : ∀ l x, Tx (pl l x).1) {l : List V.Pass} : ∀ {k : Nat} {x : List Int}, Tx x → Tx (thru pl k l x).1 := by
  induction l with
  | nil => intro k x hx; exact hx
  | cons p l ih =>
    intro k x hx
    rw [thru]
    split
    · exact ih (passF_tx hpl hx)
    · exact Tx.nil

/-- the pieces of a text: runes that are meant together, others one by one -/
def joinP (r : Int) : List (List Int × Bool) → List (List Int × Bool)
  | (x, true) :: q => (r :: x, true) :: q
  | q => ([r], true) :: q
def cut (P : Int → Bool) : List Int → List (List Int × Bool)
  | [] => []
  | r :: t => if P r = true then joinP r (cut P t) else ([r], false) :: cut P t
theorem cut_out {P : Int → Bool} {r : Int} {t : List Int} (h : P r = false) : cut P (r :: t) = ([r], false) :: cut P t := by
  rw [cut, if_neg (by simp [h])]
theorem cut_open {P : Int → Bool} {b : List Int} (hb : ∀ r, b.head? = some r → P r = false) : ∀ (r : Int), joinP r (cut P b) = ([r], true) :: cut P b := by
  intro r
  cases b with
  | nil => rfl
  | cons y t => rw [cut_out (hb y rfl)]; rfl
theorem cut_in {P : Int → Bool} {b : List Int} (hb : ∀ r, b.head? = some r → P r = false) : ∀ {a : List Int}, a ≠ [] → (∀ r ∈ a, P r = true) → cut P (a ++ b) = (a, true) :: cut P b := by
  intro a
  induction a with
  | nil => intro h; exact absurd rfl h
  | cons r a ih =>
    intro _ h
    rw [List.cons_append, cut, if_pos (h r List.mem_cons_self)]
    by_cases ha : a = []
    · subst ha; exact cut_open hb r
    · rw [ih ha fun x hx => h x (List.mem_cons_of_mem _ hx)]; rfl
/-- one rune more, at the end -/
def snocP (m : Bool) (r : Int) : List (List Int × Bool) → List (List Int × Bool)
  | [] => [([r], m)]
  | [(x, true)] => if m = true then [(x ++ [r], true)] else [(x, true), ([r], m)]
  | q :: l => q :: snocP m r l
theorem snocP_cons {m : Bool} {r : Int} {q : List Int × Bool} {l : List (List Int × Bool)} (hl : l ≠ []) : snocP m r (q :: l) = q :: snocP m r l := by
  obtain ⟨x, b⟩ := q
  cases l with
  | nil => exact absurd rfl hl
  | cons y l => cases b <;> rfl
theorem joinP_ne {y : Int} {l : List (List Int × Bool)} : joinP y l ≠ [] := by
  unfold joinP; split <;> simp
theorem snoc_join {m : Bool} {r y : Int} {l : List (List Int × Bool)} (hl : l ≠ []) : snocP m r (joinP y l) = joinP y (snocP m r l) := by
  match l, hl with
  | (x, true) :: q, _ =>
    cases q with
    | nil =>
      cases m <;> rfl
    | cons z q =>
      rw [snocP_cons (by simp)]
      show snocP m r ((y :: x, true) :: z :: q) = _
      rw [snocP_cons (by simp)]; rfl
  | (x, false) :: q, _ =>
    show snocP m r (([y], true) :: (x, false) :: q) = _
    rw [snocP_cons (by simp)]
    cases q with
    | nil => rfl
    | cons z q => rw [snocP_cons (by simp)]; rfl
theorem cut_ne {P : Int → Bool} {r : Int} {t : List Int} : cut P (r :: t) ≠ [] := by
  rw [cut]; split
  · exact joinP_ne
  · simp
theorem cut_snoc {P : Int → Bool} {r : Int} : ∀ {t : List Int}, cut P (t ++ [r]) = snocP (P r) r (cut P t) := by
  intro t
  induction t with
  | nil =>
    show cut P [r] = [([r], P r)]
    rw [cut]
    cases h : P r <;> rfl
  | cons y t ih =>
    rw [List.cons_append, cut, ih]
    cases t with
    | nil =>
      show (if P y = true then joinP y [([r], P r)] else ([y], false) :: [([r], P r)]) = snocP (P r) r (cut P [y])
      rw [cut]
      cases h1 : P y <;> cases h2 : P r <;> rfl
    | cons z t =>
      conv => rhs; rw [cut]
      split
      · rw [snoc_join cut_ne]
      · rw [snocP_cons cut_ne]
/-- the last piece, if there is one -/
theorem snocP_end {m : Bool} {r : Int} {l : List (List Int × Bool)} {x : List Int} {b : Bool} : snocP m r (l ++ [(x, b)]) = if m = true ∧ b = true then l ++ [(x ++ [r], true)] else l ++ [(x, b), ([r], m)] := by
  induction l with
  | nil => cases b <;> cases m <;> rfl
  | cons q l ih =>
    rw [List.cons_append, snocP_cons (by simp), ih]
    split <;> rfl
theorem joinP_len {r : Int} {l : List (List Int × Bool)} : (joinP r l).length ≤ l.length + 1 := by
  unfold joinP; split <;> simp
theorem cut_few {P : Int → Bool} : ∀ {t : List Int}, (cut P t).length ≤ t.length := by
  intro t
  induction t with
  | nil => exact Nat.le_refl _
  | cons r t ih =>
    rw [cut]
    split
    · have := joinP_len (r := r) (l := cut P t); simp; omega
    · simp; omega
theorem joinP_mem {r : Int} {l : List (List Int × Bool)} {N : Nat} (h : ∀ q ∈ l, q.1.length ≤ N) : ∀ q ∈ joinP r l, q.1.length ≤ N + 1 := by
  intro q hq
  unfold joinP at hq
  split at hq
  · rcases List.mem_cons.1 hq with rfl | hq
    · have := h _ List.mem_cons_self; simp at this ⊢; omega
    · have := h q (List.mem_cons_of_mem _ hq); omega
  · rcases List.mem_cons.1 hq with rfl | hq
    · simp
    · have := h q hq; omega
theorem cut_small {P : Int → Bool} : ∀ {t : List Int}, ∀ q ∈ cut P t, q.1.length ≤ t.length := by
  intro t
  induction t with
  | nil => intro q hq; cases hq
  | cons r t ih =>
    intro q hq
    rw [cut] at hq
    split at hq
    · exact joinP_mem ih q hq
    · rcases List.mem_cons.1 hq with rfl | hq
      · simp
      · have := ih q hq; simp; omega
theorem joinP_sub {r : Int} {l : List (List Int × Bool)} {A : List Int} (h : ∀ q ∈ l, ∀ x ∈ q.1, x ∈ A) : ∀ q ∈ joinP r l, ∀ x ∈ q.1, x ∈ r :: A := by
  intro q hq x hx
  unfold joinP at hq
  split at hq
  · rcases List.mem_cons.1 hq with rfl | hq
    · rcases List.mem_cons.1 hx with rfl | hx
      · exact List.mem_cons_self
      · exact List.mem_cons_of_mem _ (h _ List.mem_cons_self x hx)
    · exact List.mem_cons_of_mem _ (h q (List.mem_cons_of_mem _ hq) x hx)
  · rcases List.mem_cons.1 hq with rfl | hq
    · simp at hx; subst hx; exact List.mem_cons_self
    · exact List.mem_cons_of_mem _ (h q hq x hx)
theorem cut_sub {P : Int → Bool} : ∀ {t : List Int}, ∀ q ∈ cut P t, ∀ x ∈ q.1, x ∈ t := by
  intro t
  induction t with
  | nil => intro q hq; cases hq
  | cons r t ih =>
    intro q hq x hx
    rw [cut] at hq
    split at hq
    · exact joinP_sub ih q hq x hx
    · rcases List.mem_cons.1 hq with rfl | hq
      · simp at hx; subst hx; exact List.mem_cons_self
      · exact List.mem_cons_of_mem _ (ih q hq x hx)
theorem cut_tx {P : Int → Bool} {t : List Int} (h : Tx t) : ∀ q ∈ cut P t, Tx q.1 := fun q hq => h.sub (cut_small q hq) (cut_sub q hq)

def runP (pl : Pl) (ps : List V.Pass) : List (List Int × Bool) → List Int → List Int × Int × Int
  | [], out => (out, 0, 0)
  | q :: l, out => if q.2 = true then (if (thru pl 0 ps q.1).2.1 = 0 then runP pl ps l (out ++ (thru pl 0 ps q.1).1) else ([], (thru pl 0 ps q.1).2)) else runP pl ps l (out ++ q.1)
theorem runP_drop {pl : Pl} {ps : List V.Pass} {l : List (List Int × Bool)} {k : Nat} {q : List Int × Bool} {out : List Int} (h : l[k]? = some q) : runP pl ps (l.drop k) out = if q.2 = true then (if (thru pl 0 ps q.1).2.1 = 0 then runP pl ps (l.drop (k + 1)) (out ++ (thru pl 0 ps q.1).1) else ([], (thru pl 0 ps q.1).2)) else runP pl ps (l.drop (k + 1)) (out ++ q.1) := by
  have hlt := (List.getElem?_eq_some_iff.1 h).1
  rw [List.drop_eq_getElem_cons hlt]
  have : l[k] = q := by rw [List.getElem?_eq_getElem hlt] at h; exact Option.some.inj h
  rw [this]; rfl
/-- whether a rune is meant -/
def inS (s : V.Script) (r : Int) : Bool := !s.has || S.memb s.only r
/-- what a script makes of a text -/
def goF (pl : Pl) (s : V.Script) (t : List Int) : List Int × Int × Int :=
  if (wrongF s).1 = 0 then
    if K.textE t = 0 then
      if (runP pl s.passes (cut (inS s) t) []).2.1 = 0 then
        if 4000 < (runP pl s.passes (cut (inS s) t) []).1.length then ([], 4, (s.passes.length : Int)) else ((runP pl s.passes (cut (inS s) t) []).1, 0, 0)
      else ([], (runP pl s.passes (cut (inS s) t) []).2)
    else ([], K.textE t, 0)
  else ([], wrongF s)
end Go.Proofs.YtjaodbaooogpnaaGreat.Cn
