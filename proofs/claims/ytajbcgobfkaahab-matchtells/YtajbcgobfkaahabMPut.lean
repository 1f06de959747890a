/-
  What Matches and Put answer: the program.
-/
import Derived.Test.YtajbcgobfkaahabMHere
import Derived.Test.YtajbcgobfkaahabMConcat
import Derived.Deep.RegionHeld3
namespace Go.Proofs.Ytajbcgobfkaahab
open Go.RowKit Go.Shelf
set_option maxRecDepth 20000
set_option linter.unusedSimpArgs false
set_option linter.unusedVariables false

namespace K
def matchesE (r : Rule) (t : List Int) (k : Int) : Int := if ruleE r ≠ 0 then ruleE r else if textE t ≠ 0 then textE t else if k < 0 ∨ (t.length : Int) < k then 3 else 0
theorem matchesE_zero {r : Rule} {t : List Int} {k : Int} (h : matchesE r t k = 0) : ruleE r = 0 ∧ textE t = 0 ∧ 0 ≤ k ∧ k ≤ t.length := by
  unfold matchesE at h
  by_cases h1 : ruleE r = 0
  · rw [if_neg (by simp [h1])] at h
    by_cases h2 : textE t = 0
    · rw [if_neg (by simp [h2])] at h
      by_cases h3 : k < 0 ∨ (t.length : Int) < k
      · rw [if_pos h3] at h; exact absurd h (by decide)
      · exact ⟨h1, h2, by omega, by omega⟩
    · rw [if_pos h2] at h; exact absurd h h2
  · rw [if_pos h1] at h; exact absurd h h1
def matchesB (r : Rule) (t : List Int) (k : Int) : Bool := if matchesE r t k = 0 then matchB r t k else false
/-- a text's slice, cut -/
theorem rd_take {w : World} {xo : Option Addr} {xc : Nat} {t : List Int} (h : L.Rd w (.slice xo t.length xc) .i32 t) {n : Nat} (hn : n ≤ t.length) : L.Rd w (.slice xo n xc) .i32 (t.take n) := by
  obtain ⟨ao, cap, he, hz, hc⟩ := h
  cases he
  refine ⟨xo, xc, by rw [List.length_take, Nat.min_eq_left hn], hz, fun hne => ?_⟩
  obtain ⟨b, off, rfl, hcell⟩ := hc (by intro h; subst h; simp at hne)
  refine ⟨b, off, rfl, fun j z hj => hcell j z ?_⟩
  rw [List.getElem?_take] at hj
  split at hj
  · exact hj
  · cases hj
theorem rd_drop {w : World} {xo : Option Addr} {xc : Nat} {t : List Int} (h : L.Rd w (.slice xo t.length xc) .i32 t) {d : Nat} (hd : d ≤ t.length) (hcap : t.length ≤ xc) : L.Rd w (.slice (if xc = d then xo else Option.map (fun x => x.add d) xo) (t.length - d) (xc - d)) .i32 (t.drop d) := by
  obtain ⟨ao, cap, he, hz, hc⟩ := h
  cases he
  refine ⟨_, _, by rw [List.length_drop], fun e => ?_, fun hne => ?_⟩
  · cases xo with
    | none => rw [hz rfl]; simp
    | some a => split at e <;> cases e
  · have hp := List.length_pos_iff.2 hne
    rw [List.length_drop] at hp
    obtain ⟨b, off, rfl, hcell⟩ := hc (by intro h; subst h; simp at hp)
    rw [if_neg (by omega)]
    refine ⟨b, off + d, by rw [Option.map_some, L.addr_add], fun j z hj => ?_⟩
    rw [List.getElem?_drop] at hj
    rw [Nat.add_assoc]
    exact hcell _ z hj
end K

set_option maxHeartbeats 4000000 in
theorem mMatches_any (w : World) (v : Value) (r : K.Rule) (R : K.RuIs w v r) (vt : Value) (t : List Int) (Rt : L.Rd w vt .i32 t) (ht : t.length ≤ 140737488355328) (k : Int) (hk : K.I64 k) :
    Calls Try.prog 8 #[v, vt, .int .i64 k] w fun e w' => e = .returned (.tuple #[.bool (K.matchesB r t k), .int .i64 (K.matchesE r t k)]) ∧ Below w.heap.size w w' := by
  have HW : Hid (∀ X, Below w.heap.size w X → Calls Try.prog 5 #[v] X fun e w' => e = .returned (.int .i64 (K.ruleE r)) ∧ Below X.heap.size X w') := fun X hX => mWrong_any X v r (R.below hX)
  have HX : Hid (∀ X, Below w.heap.size w X → Calls Try.prog 6 #[vt] X fun e w' => e = .returned (.int .i64 (K.textE t)) ∧ Below X.heap.size X w') := fun X hX => mText_any X vt t (Rt.below hX (Nat.le_refl _)) ht
  have HH : Hid (K.ruleE r = 0 → K.textE t = 0 → 0 ≤ k → k ≤ t.length → ∀ X, Below w.heap.size w X → Calls Try.prog 17 #[v, .iface 42 vt, .int .i64 k] X fun e w' => e = .returned (.bool (K.matchB r t k)) ∧ Below X.heap.size X w') := fun h1 h2 h3 h4 X hX => mHere_any X v r (R.below hX) h1 vt t (Rt.below hX (Nat.le_refl _)) (K.textE_zero h2) k h3 h4
  have hI1 : -9223372036854775808 ≤ k := hk.1
  have hI2 : k ≤ 9223372036854775807 := hk.2
  obtain ⟨bo, bc, so, sc, ao, ac, to, tc, rfl, _⟩ := R
  obtain ⟨xo, xc, rfl, _⟩ := Rt
  have HA : Hid (∀ o, Below w.heap.size w (w.alloc o)) := fun o => (Below.refl _ w).alloc (Nat.le_refl _) o
  unfold K.matchesB
  obtain ⟨o, HO⟩ : ∃ o, Hid (K.matchesE r t k = o) := ⟨_, rfl⟩
  rw [HO.out]
  unfold K.matchesE at HO
  generalize K.ruleE r = e1 at *
  generalize K.textE t = e2 at *
  generalize K.matchB r t k = mb at *
  clear hk
  go_enter Try.func8, Try.ntmps8
  go_wp2_with fail
  refine (HW.out _ (HA.out _)).mono ?_
  rintro e w1 ⟨rfl, hb⟩
  obtain ⟨h1, hb1, hs1⟩ := K.one_box hb
  have HB1 : Hid (Below w.heap.size w w1) := hb1
  have HH1 : Hid (w1.heap[w.heap.size]? = _) := h1
  clear hb hb1 h1
  by_cases q1 : e1 = 0
  · subst q1
    go_wp2_with fail
    refine (HX.out _ HB1.out).mono ?_
    rintro e w2 ⟨rfl, hb⟩
    have HB2 : Hid (Below w.heap.size w w2) := HB1.out.trans (hb.mono (by omega))
    have h2 := K.blk_below HH1.out hb
    have HH2 : Hid (w2.heap[w.heap.size]? = _) := h2
    clear hb h2
    by_cases q2 : e2 = 0
    · subst q2
      by_cases q3 : k < 0 ∨ (t.length : Int) < k
      · have ho : o = 3 := by rw [← HO.out, if_neg (by simp), if_neg (by simp), if_pos q3]
        subst ho
        rcases q3 with q3 | q3
        · go_wp2
          go_ret2
          exact ⟨by simp, HB2.out⟩
        · by_cases q4 : k < 0
          · omega
          · go_wp2
            go_ret2
            exact ⟨by simp, HB2.out⟩
      · have ho : o = 0 := by rw [← HO.out, if_neg (by simp), if_neg (by simp), if_neg q3]
        subst ho
        have d0 := K.at_box (i := 0) HH2.out rfl
        have d1 := K.at_box (i := 1) HH2.out rfl
        have d2 := K.at_box (i := 2) HH2.out rfl
        have d3 := K.at_box (i := 3) HH2.out rfl
        have d4 := K.at_box (i := 4) HH2.out rfl
        have d5 := K.at_box (i := 5) HH2.out rfl
        have d6 := K.at_box (i := 6) HH2.out rfl
        have q4 : ¬ k < 0 := by omega
        have q5 : ¬ (t.length : Int) < k := by omega
        have hH := HH.out (by trivial) (by trivial) (by omega) (by omega) w2 HB2.out
        go_wp2_with fail
        refine hH.mono ?_
        rintro e w3 ⟨rfl, hb⟩
        have HB3 : Hid (Below w.heap.size w w3) := HB2.out.trans (hb.mono HB2.out.size)
        clear hb hH
        go_wp2
        go_ret2
        exact ⟨by simp, HB3.out⟩
    · have ho : o = e2 := by rw [← HO.out, if_neg (by simp), if_pos q2]
      subst ho
      go_wp2
      go_ret2
      exact ⟨by simp [q2], HB2.out⟩
  · have ho : o = e1 := by rw [← HO.out, if_pos q1]
    subst ho
    go_wp2
    go_ret2
    exact ⟨by simp [q1], HB1.out⟩

namespace K
def putOk (r : Rule) (t : List Int) (k : Int) : Bool := decide (matchesE r t k = 0) && matchB r t k && decide ((putL r t k).length ≤ 4000)
def putErr (r : Rule) (t : List Int) (k : Int) : Int := if matchesE r t k ≠ 0 then matchesE r t k else if matchB r t k = false then 0 else if 4000 < (putL r t k).length then 4 else 0
def putAt (r : Rule) (t : List Int) (k : Int) : Int := if putOk r t k = true then k + r.cursor else 0
def putRes (r : Rule) (t : List Int) (k : Int) : List Int := if putOk r t k = true then putL r t k else []
theorem keep56 {w w' : World} {o : Obj} {g : Nat} {v0 v1 v2 v3 v4 v5 v6 : Value} {ty : TypeId} (h : w.heap[g]? = some (.cells #[v0, v1, v2, v3, v4, v5, v6] ty)) (hb : Below (w.alloc o).drew.heap.size (w.alloc o).drew w') : w'.cell? ⟨g, 5, none⟩ = some v5 ∧ w'.cell? ⟨g, 6, none⟩ = some v6 := by
  have hlt : g < w.heap.size := (Array.getElem?_eq_some_iff.1 h).1
  have hb' : w'.heap[g]? = some (.cells #[v0, v1, v2, v3, v4, v5, v6] ty) := ((hb.block g (by show g < (w.alloc o).heap.size; simp; omega)).trans (Below.heap_alloc w o g hlt)).trans h
  exact ⟨at_box (i := 5) hb' rfl, at_box (i := 6) hb' rfl⟩
end K

theorem K.slice_upto (xo : Option Addr) (N xc n : Nat) (h : n ≤ xc) (w' : World) : (Instr.slice 23 (.slice xo N xc) none (some (.int .i64 (n : Int))) none).run Try.prog w' = .ok (.slice xo n xc) w' := by
  have a1 : (n : Int) ≤ xc := by omega
  have a0 : (0 : Int) ≤ n := by omega
  go_simp
theorem K.slice_from (xo : Option Addr) (N xc D : Nat) (h : D ≤ N) (hc : N ≤ xc) (w' : World) : (Instr.slice 23 (.slice xo N xc) (some (.int .i64 (D : Int))) none none).run Try.prog w' = .ok (.slice (if xc = D then xo else Option.map (fun x => x.add D) xo) (N - D) (xc - D)) w' := by
  have a1 : (D : Int) ≤ N := by omega
  have a2 : (N : Int) ≤ xc := by omega
  have a0 : (0 : Int) ≤ D := by omega
  go_simp

set_option maxHeartbeats 8000000 in
theorem mPut_any (w : World) (v : Value) (r : K.Rule) (R : K.RuIs w v r) (xo : Option Addr) (xc : Nat) (t : List Int) (Rt : L.Rd w (.slice xo t.length xc) .i32 t) (hcap : t.length ≤ xc) (ht : t.length ≤ 140737488355328) (k : Int) (hk : K.I64 k) :
    Calls Try.prog 9 #[v, .slice xo t.length xc, .int .i64 k] w fun e w' => ∃ v', e = .returned (.tuple #[v', .int .i64 (K.putAt r t k), .bool (K.putOk r t k), .int .i64 (K.putErr r t k)]) ∧ L.Rd w' v' .i32 (K.putRes r t k) ∧ Below w.heap.size w w' := by
  have HM : Hid (∀ X, Below w.heap.size w X → Calls Try.prog 8 #[v, .slice xo t.length xc, .int .i64 k] X fun e w' => e = .returned (.tuple #[.bool (K.matchesB r t k), .int .i64 (K.matchesE r t k)]) ∧ Below X.heap.size X w') := fun X hX => mMatches_any X v r (R.below hX) _ t (Rt.below hX (Nat.le_refl _)) ht k hk
  have HRt : Hid (L.Rd w (.slice xo t.length xc) .i32 t) := Rt
  have hI1 : -9223372036854775808 ≤ k := hk.1
  have hI2 : k ≤ 9223372036854775807 := hk.2
  have nilRd : ∀ X, L.Rd X (.slice none 0 0) .i32 [] := fun X => ⟨none, 0, rfl, fun _ => rfl, fun h => absurd rfl h⟩
  have HNil : Hid (∀ X, L.Rd X (.slice none 0 0) .i32 []) := nilRd
  have HA : Hid (∀ o, Below w.heap.size w (w.alloc o)) := fun o => (Below.refl _ w).alloc (Nat.le_refl _) o
  have HE : Hid (K.matchesE r t k = 0 → K.ruleE r = 0 ∧ K.textE t = 0 ∧ 0 ≤ k ∧ k ≤ t.length) := K.matchesE_zero
  obtain ⟨bo, bc, so, sc, ao, ac, to, tc, rfl, _, _, _, R4, _, _⟩ := R
  have HR4 : Hid (L.Rd w (.slice to r.target.length tc) .i32 r.target) := R4
  clear hk nilRd Rt R4
  by_cases q1 : K.matchesE r t k = 0
  · obtain ⟨z1, z2, z3, z4⟩ := HE.out q1
    have hR := K.ruleE_zero z1
    have ht4 := K.textE_zero z2
    have hB1 : K.matchesB r t k = K.matchB r t k := by unfold K.matchesB; rw [if_pos q1]
    rw [q1, hB1] at HM
    by_cases q2 : K.matchB r t k = true
    · obtain ⟨y1, y2⟩ := K.match_in hR.2.2.2.1 q2
      have hpl := K.put_length (r := r) (t := t) (at_ := k) z3 (by omega)
      rw [q2] at HM
      have hcr := hR.2.2.2.2.2.2
      have hlt := hR.2.2.2.2.1
      have hls := hR.2.1.1
      by_cases q3 : 4000 < (K.putL r t k).length
      · have p1 : K.putOk r t k = false := by unfold K.putOk; simp [q1, q2]; omega
        have p2 : K.putErr r t k = 4 := by unfold K.putErr; simp [q1, q2]; omega
        have p3 : K.putAt r t k = 0 := by unfold K.putAt; simp [p1]
        have p4 : K.putRes r t k = [] := by unfold K.putRes; simp [p1]
        rw [p1, p2, p3, p4]
        clear p1 p2 p3 p4 q1 q2 HE z1 z2
        go_enter Try.func9, Try.ntmps9
        go_wp2_with fail
        refine (HM.out _ (HA.out _)).mono ?_
        rintro e w1 ⟨rfl, hb⟩
        obtain ⟨h1, hb1, hs1⟩ := K.one_box hb
        have HB1 : Hid (Below w.heap.size w w1) := hb1
        have d3 := K.at_box (i := 3) h1 rfl
        have d5 := K.at_box (i := 5) h1 rfl
        clear hb hb1 h1
        have hlong : ¬ (t.length : Int) - r.source.length + r.target.length ≤ 4000 := by omega
        go_wp2
        refine bodyPost_ret (v := .tuple #[.slice none 0 0, .int .i64 0, .bool false, .int .i64 4]) (by simp [results, Try.results9, go_sem]) rfl ?_
        exact ⟨_, rfl, HNil.out _, HB1.out⟩
      · have p1 : K.putOk r t k = true := by unfold K.putOk; simp [q1, q2]; omega
        have p2 : K.putErr r t k = 0 := by unfold K.putErr; simp [q1, q2]; omega
        have p3 : K.putAt r t k = k + r.cursor := by unfold K.putAt; simp [p1]
        have p4 : K.putRes r t k = K.putL r t k := by unfold K.putRes; simp [p1]
        rw [p1, p2, p3, p4]
        clear p1 p2 p3 p4 q1 q2 HE z1 z2
        go_enter Try.func9, Try.ntmps9
        go_wp2_with fail
        refine (HM.out _ (HA.out _)).mono ?_
        rintro e w1 ⟨rfl, hb⟩
        obtain ⟨h1, hb1, hs1⟩ := K.one_box hb
        have HB1 : Hid (Below w.heap.size w w1) := hb1
        have HH1 : Hid (w1.heap[w.heap.size]? = _) := h1
        have d3 := K.at_box (i := 3) h1 rfl
        have d5 := K.at_box (i := 5) h1 rfl
        have d6 := K.at_box (i := 6) h1 rfl
        clear hb hb1 h1
        have hshort : (t.length : Int) - r.source.length + r.target.length ≤ 4000 := by omega
        obtain ⟨n, rfl⟩ : ∃ n : Nat, k = n := ⟨k.toNat, by omega⟩
        obtain ⟨D, hD⟩ : ∃ D : Nat, D = n + r.source.length := ⟨_, rfl⟩
        have hDl : D ≤ t.length := by omega
        obtain ⟨ap, hap⟩ : ∃ ap, ap = (if xc = D then xo else Option.map (fun x => x.add D) xo) := ⟨_, rfl⟩
        obtain ⟨m, hm⟩ : ∃ m : Nat, m = t.length - D := ⟨_, rfl⟩
        obtain ⟨mc, hmc⟩ : ∃ mc : Nat, mc = xc - D := ⟨_, rfl⟩
        have HZ1 : Hid (L.Rd w (.slice xo n xc) .i32 (t.take n)) := K.rd_take HRt.out (by omega)
        have HZ3 : Hid (L.Rd w (.slice ap m mc) .i32 (t.drop D)) := by
          rw [hap, hm, hmc]; exact K.rd_drop HRt.out hDl hcap
        have hsl1 : ∀ w', (Instr.slice 23 (.slice xo t.length xc) none (some (.int .i64 (n : Int))) none).run Try.prog w' = .ok (.slice xo n xc) w' := fun w' => K.slice_upto xo _ xc n (by omega) w'
        have hsl2 : ∀ w', (Instr.slice 23 (.slice xo t.length xc) (some (.int .i64 ((n : Int) + (r.source.length : Int)))) none none).run Try.prog w' = .ok (.slice ap m mc) w' := fun w' => by
          have h := K.slice_from xo t.length xc D hDl hcap w'
          rw [hm, hap, hmc, show (n : Int) + (r.source.length : Int) = (D : Int) by omega]
          exact h
        have HP : Hid (K.putL r t n = t.take n ++ r.target ++ t.drop D) := by
          show _ = _
          unfold K.putL; rw [hD]; rfl
        have hlen3 : (t.take n).length + r.target.length + (t.drop D).length ≤ 4000 := by
          rw [List.length_take, List.length_drop]; omega
        clear hap hm hmc hD
        go_wp2
        go_quiet (fail)
        have HBW : Hid (Below w.heap.size w (w1.drewN nq) ∧ (w1.drewN nq).heap[w.heap.size]? = some (.cells #[.bool r.start, .bool r.fin, .slice bo r.before.length bc, .slice so r.source.length sc, .slice ao r.after.length ac, .slice to r.target.length tc, .int .i64 r.cursor] 25)) := ⟨below_drewN HB1.out _, HH1.out⟩
        clear d3 d5 d6 HB1 HH1 HM HNil HA hsl1 hsl2
        generalize w1.drewN nq = W at *
        have g5 := K.at_box (i := 5) HBW.out.2 rfl
        have g6 := K.at_box (i := 6) HBW.out.2 rfl
        have hltW : w.heap.size < W.heap.size := (Array.getElem?_eq_some_iff.1 HBW.out.2).1
        have n5 := World.new_ne W _ g5
        have n6 := World.new_ne W _ g6
        have HC : Hid (Calls Try.prog 18 #[.slice (some ⟨W.heap.size, 0, none⟩) 3 3] (W.alloc (.cells #[.slice xo n xc, .slice to r.target.length tc, .slice ap m mc] 23)).drew fun e w' => ∃ v, e = .returned v ∧ w'.ownsRow w.heap.size 21 1 v (t.take n ++ r.target ++ t.drop D).length ((t.take n ++ r.target ++ t.drop D).map (Value.int .i32)) ∧ Below (W.alloc (.cells #[.slice xo n xc, .slice to r.target.length tc, .slice ap m mc] 23)).drew.heap.size (W.alloc (.cells #[.slice xo n xc, .slice to r.target.length tc, .slice ap m mc] 23)).drew w') := by
          have hbx : Below w.heap.size w (W.alloc (.cells #[.slice xo n xc, .slice to r.target.length tc, .slice ap m mc] 23)).drew := (HBW.out.1.alloc (by omega) _).drew
          refine (concat3_any _ _ _ _ _ _ _ _ ?_ ?_ ?_ (HZ1.out.below hbx (Nat.le_refl _)) (HR4.out.below hbx (Nat.le_refl _)) (HZ3.out.below hbx (Nat.le_refl _)) hlen3).mono fun e w' ⟨v, he, ho, hb⟩ => ⟨v, he, L.owns_base ho (by show w.heap.size ≤ (W.alloc _).heap.size; simp; omega), hb⟩
          · exact World.cell?_alloc_at _ _ _ _ (by simp)
          · exact World.cell?_alloc_at _ _ _ _ (by simp)
          · exact World.cell?_alloc_at _ _ _ _ (by simp)
        clear HZ1 HZ3 HR4 HRt
        go_wp2
        go_region_held3 (fun w' => w'.cell? ⟨w.heap.size, 5, none⟩ = some (.slice to r.target.length tc) ∧ w'.cell? ⟨w.heap.size, 6, none⟩ = some (.int .i64 r.cursor)) (first | exact K.keep56 HBW.out.2 bw | go_keep) (first | (go_at_call 18; refine HC.out.mono ?_; rintro e w' ⟨v, rfl, rv, bw⟩) | fail)
        have HV : Hid (w'.ownsRow w.heap.size 21 1 v (t.take n ++ r.target ++ t.drop D).length ((t.take n ++ r.target ++ t.drop D).map (Value.int .i32))) := rv
        have HB : Hid (Below w.heap.size w w') := ((HBW.out.1.alloc (by omega) _).drew).trans (bw.mono (by show w.heap.size ≤ (W.alloc _).heap.size; simp; omega))
        clear rv bw HC
        go_wp2
        have hwr : IntKind.i64.wrap ((n : Int) + r.cursor) = (n : Int) + r.cursor := by rw [IntKind.wrap_i64]; omega
        all_goals
          refine bodyPost_ret (v := .tuple #[v, .int .i64 ((n : Int) + r.cursor), .bool true, .int .i64 0]) (by simp [results, Try.results9, go_sem, hwr]) rfl ?_
          exact ⟨_, rfl, by rw [HP.out]; exact L.Rd.of_owns HV.out, HB.out⟩
    · have q2 : K.matchB r t k = false := by simpa using q2
      have p1 : K.putOk r t k = false := by unfold K.putOk; simp [q2]
      have p2 : K.putErr r t k = 0 := by unfold K.putErr; simp [q1, q2]
      have p3 : K.putAt r t k = 0 := by unfold K.putAt; simp [p1]
      have p4 : K.putRes r t k = [] := by unfold K.putRes; simp [p1]
      rw [p1, p2, p3, p4]
      rw [q2] at HM
      clear p1 p2 p3 p4 q1 q2 HE
      go_enter Try.func9, Try.ntmps9
      go_wp2_with fail
      refine (HM.out _ (HA.out _)).mono ?_
      rintro e w1 ⟨rfl, hb⟩
      obtain ⟨h1, hb1, hs1⟩ := K.one_box hb
      have HB1 : Hid (Below w.heap.size w w1) := hb1
      clear hb hb1 h1
      go_wp2
      refine bodyPost_ret (v := .tuple #[.slice none 0 0, .int .i64 0, .bool false, .int .i64 0]) (by simp [results, Try.results9, go_sem]) rfl ?_
      exact ⟨_, rfl, HNil.out _, HB1.out⟩
  · have hB1 : K.matchesB r t k = false := by unfold K.matchesB; rw [if_neg q1]
    have p1 : K.putOk r t k = false := by unfold K.putOk; simp [q1]
    have p2 : K.putErr r t k = K.matchesE r t k := by unfold K.putErr; simp [q1]
    have p3 : K.putAt r t k = 0 := by unfold K.putAt; simp [p1]
    have p4 : K.putRes r t k = [] := by unfold K.putRes; simp [p1]
    rw [p1, p2, p3, p4]
    rw [hB1] at HM
    clear p1 p2 p3 p4 q1 hB1 HE
    generalize K.matchesE r t k = ee at *
    go_enter Try.func9, Try.ntmps9
    go_wp2_with fail
    refine (HM.out _ (HA.out _)).mono ?_
    rintro e w1 ⟨rfl, hb⟩
    obtain ⟨h1, hb1, hs1⟩ := K.one_box hb
    have HB1 : Hid (Below w.heap.size w w1) := hb1
    clear hb hb1 h1
    go_wp2
    refine bodyPost_ret (v := .tuple #[.slice none 0 0, .int .i64 0, .bool false, .int .i64 ee]) (by simp [results, Try.results9, go_sem]) rfl ?_
    exact ⟨_, rfl, HNil.out _, HB1.out⟩

end Go.Proofs.Ytajbcgobfkaahab
