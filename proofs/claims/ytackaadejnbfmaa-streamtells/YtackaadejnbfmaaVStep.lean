/-
  A text that comes piece by piece, as it lies in memory; one step of it.
-/
import Derived.Test.YtackaadejnbfmaaQRepl2
import Derived.Test.YtackaadejnbfmaaWFrame
import Derived.Test.YtackaadejnbfmaaWStep
import Derived.Test.YtackaadejnbfmaaYMath
import Derived.Deep.QuietTactic
import Derived.BigQuiet
import Derived.Test.YtackaadejnbfmaaFrame
import Derived.Deep.RegionHeld3
import Derived.Deep.MidRow
namespace Go.Proofs.Ytackaadejnbfmaa
open Go.RowKit Go.Lib
set_option maxRecDepth 20000
set_option linter.unusedSimpArgs false
set_option linter.unusedVariables false

namespace Ws
/-- what was told, none of it in the text's block -/
def Told (F : Nat) (w : World) (tv vt : Value) (ts : List (List Int)) : Prop :=
  ∃ ps : List (List Int × Value), ps.map (·.1) = ts ∧ w.ownsRow F 23 1 vt ps.length (ps.map (·.2)) ∧ ∀ p ∈ ps, w.ownsRow F 21 1 p.2 p.1.length (K.ints p.1) ∧ ∀ g, p.2.ownBlock = some g → tv.ownBlock ≠ some g
structure Fl (F bs : Nat) (w : World) (vl : Value) (ah : Nat) (tv vt : Value) (T : List Int) (k came steps up : Nat) (ts : List (List Int)) : Prop where
  hF : F ≤ bs
  box : w.heap[bs]? = some (.cells #[tv, .int .i64 k, vl, .int .i64 ah, .int .i64 came, .int .i64 steps, vt, .int .i64 up] 75)
  text : w.ownsRow F 21 1 tv T.length (K.ints T)
  told : Told F w tv vt ts

theorem own_of {w : World} {B : Nat} {v : Value} {t : List Int} (h : w.ownsRow B 21 1 v t.length (K.ints t)) (h0 : 0 < t.length) : ∃ g cap, v = .slice (some ⟨g, 0, none⟩) t.length cap ∧ B ≤ g ∧ K.OwnT w g cap t := by
  rcases h.2 with ⟨_, h1⟩ | ⟨g, cap, cur, hv, hB, hg, hle, hmax, hsz, htk⟩
  · omega
  · exact ⟨g, cap, hv, hB, cur.toList, by simpa [K.Row] using hg, by simpa using hsz, hle, hmax, by simpa using htk⟩
theorem own_back {w : World} {B g cap : Nat} {t : List Int} (h : K.OwnT w g cap t) (hB : B ≤ g) : w.ownsRow B 21 1 (.slice (some ⟨g, 0, none⟩) t.length cap) t.length (K.ints t) := by
  obtain ⟨cur, row, hl, hle, hmax, htk⟩ := h
  exact ⟨by rw [K.ints_length]; omega, .inr ⟨g, cap, cur.toArray, rfl, hB, by simpa [K.Row] using row, hle, hmax, by simpa using hl, by simpa using htk⟩⟩
theorem Fl.keepsTold {F bs : Nat} {w w' : World} {tv tv' vt : Value} {T : List Int} {c : Array Value} {ts : List (List Int)} (hb : w.heap[bs]? = some (.cells c 75)) (ht : w.ownsRow F 21 1 tv T.length (K.ints T)) (h : Told F w tv vt ts) (hk : ∀ j, j < w.heap.size → j ≠ bs → tv.ownBlock ≠ some j → w'.heap[j]? = w.heap[j]?) (hn : tv'.ownBlock = tv.ownBlock ∨ ∃ g', tv'.ownBlock = some g' ∧ w.heap.size ≤ g') : Told F w' tv' vt ts := by
  obtain ⟨ps, h1, h2, h3⟩ := h
  refine ⟨ps, h1, kept1 h2 fun g hg => hk g (h2.lt g hg).2 (box_ne h2 hb (by decide) g hg) (own_ne2 h2 ht (by decide) g hg), fun p hp => ?_⟩
  obtain ⟨h4, h5⟩ := h3 p hp
  refine ⟨kept1 h4 fun g hg => hk g (h4.lt g hg).2 (box_ne h4 hb (by decide) g hg) (h5 g hg), fun g hg e => ?_⟩
  rcases hn with hn | ⟨g', hn, hg'⟩
  · exact h5 g hg (hn ▸ e)
  · rw [hn] at e
    cases e
    have := (h4.lt _ hg).2
    omega
theorem Told.len {F : Nat} {w : World} {tv vt : Value} {ts : List (List Int)} (h : Told F w tv vt ts) : ∃ ao cap, vt = .slice ao ts.length cap := by
  obtain ⟨ps, h1, h2, _⟩ := h
  have hl : ps.length = ts.length := by rw [← h1]; simp
  rw [hl] at h2
  rcases h2.2 with ⟨hv, h0⟩ | ⟨g, cap, cur, hv, _⟩
  · exact ⟨none, 0, by rw [hv, h0]⟩
  · exact ⟨_, cap, hv⟩
theorem Told.own {F : Nat} {w : World} {tv vt : Value} {ts : List (List Int)} (h : Told F w tv vt ts) : Own F w vt ts := by
  obtain ⟨ps, h1, h2, h3⟩ := h
  have hl : ps.length = ts.length := by rw [← h1]; simp
  exact ⟨ps, h1, hl ▸ h2, fun p hp => (h3 p hp).1⟩
end Ws

set_option maxHeartbeats 1000000 in
theorem wmost_any (w : World) (n : Nat) (hn : n ≤ 4000) :
    Calls Try.prog 43 #[.int .i64 (n : Int)] w fun e w' => e = .returned (.int .i64 (8 * (n : Int) + 40)) ∧ w' = w := by
  have e1 : IntKind.i64.wrap (8 * (n : Int)) = 8 * (n : Int) := by rw [IntKind.wrap_i64]; omega
  have e2 : IntKind.i64.wrap (8 * (n : Int) + 40) = 8 * (n : Int) + 40 := by rw [IntKind.wrap_i64]; omega
  go_enter Try.func43, Try.ntmps43
  go_wp2
  go_ret
  exact ⟨by simp [e1, e2], rfl⟩

set_option maxHeartbeats 4000000 in
theorem wspent_any (w : World) (bs : Nat) (tv vl vt : Value) (k ah came steps up : Nat) (hb : w.heap[bs]? = some (.cells #[tv, .int .i64 k, vl, .int .i64 ah, .int .i64 came, .int .i64 steps, vt, .int .i64 up] 75)) (hc : came ≤ 4000) :
    Calls Try.prog 36 #[.pointer (some ⟨bs, 0, none⟩)] w fun e w' => e = .returned (.bool (decide (8 * (came : Int) + 40 ≤ (steps : Int)))) ∧ ∃ q, w' = w.drewN q := by
  have k4 : w.cell? ⟨bs, 4, none⟩ = some (.int .i64 came) := K.at_box (i := 4) hb rfl
  have k5 : w.cell? ⟨bs, 5, none⟩ = some (.int .i64 steps) := K.at_box (i := 5) hb rfl
  clear hb
  go_enter Try.func36, Try.ntmps36
  go_wp2_with fail
  go_quiet (first | (go_at_call 43; exact Calls.quiet_of_same (wmost_any _ came hc)))
  go_wp2
  go_ret
  exact ⟨by simp, nq, rfl⟩

/-- a step of the flow -/
def Ws.Stepped (l : List K.Rule) (F bs : Nat) (w w' : World) (vl : Value) (ah : Nat) (vt : Value) (A Z : List Int) (came steps up : Nat) (ts : List (List Int)) (x : Int) : Prop :=
  (x = 4 ∧ ∀ fin left, ¬ (Z.length = 0 ∨ (fin = false ∧ Z.length ≤ ah)) → Ws.go l fin ah (left + 1) A Z = (4, 0, [], [])) ∨
  (x = 0 ∧ ∃ A' Z' tv', Ws.Fl F bs w' vl ah tv' vt (A' ++ Z') A'.length came (steps + 1) up ts ∧ A.length ≤ A'.length ∧ A'.length + Z'.length ≤ 4000 ∧ ∀ fin left, ¬ (Z.length = 0 ∨ (fin = false ∧ Z.length ≤ ah)) → Ws.go l fin ah (left + 1) A Z = Ws.go l fin ah left A' Z')

theorem wState_any (w0 : World) (vl : Value) (l : List K.Rule) (R0 : V.Rus w0 vl l) (hl : l.length ≤ 200) (hE : ∀ r ∈ l, K.ruleE r = 0) (w : World) (hX : Below w0.heap.size w0 w) (bs : Nat) (ah : Nat) (tv vt : Value) (A Z : List Int) (came steps up : Nat) (ts : List (List Int)) (hf : Ws.Fl w0.heap.size bs w vl ah tv vt (A ++ Z) A.length came (steps + 1) up ts) (h4 : A.length + Z.length ≤ 4000) (hz : 0 < Z.length) :
    Calls Try.prog 55 #[.pointer (some ⟨bs, 0, none⟩), vl] w fun e w' => ∃ k x : Int, e = .returned (.tuple #[.int .i64 k, .int .i64 x]) ∧ Below w0.heap.size w w' ∧ w'.cell? ⟨bs, 2, none⟩ = some vl ∧ Ws.Stepped l w0.heap.size bs w w' vl ah vt A Z came steps up ts x := by
  obtain ⟨g, cap, rfl, hg, hO⟩ := Ws.own_of hf.text (by simp; omega)
  have hlen : (A ++ Z).length = A.length + Z.length := List.length_append
  have hS : K.Stx 75 [vl, .int .i64 ah, .int .i64 came, .int .i64 ((steps + 1 : Nat) : Int), vt, .int .i64 up] w0.heap.size bs w g cap (A ++ Z) (A.length : Nat) := ⟨hf.hF, hf.box, hg, hO⟩
  have hzn : ¬ Z.length = 0 := by omega
  rcases K.which_is (l := l) (t := A ++ Z) (k := (A.length : Int)) with hw | ⟨j, r, hj, hm, hw⟩
  · refine (wstep_none _ _ (by decide) w0 vl l R0 hl hE w hX bs g cap (A ++ Z) A.length hS (by omega) (by omega) hw).mono ?_
    rintro e w' ⟨rfl, h1, h2, h3⟩
    have hA' : (A ++ Z.take 1).length = A.length + 1 := by rw [List.length_append, List.length_take]; omega
    have hT : A ++ Z.take 1 ++ Z.drop 1 = A ++ Z := by rw [List.append_assoc, List.take_append_drop]
    refine ⟨-1, 0, rfl, h2, K.at_list (i := 2) h1.2.1 rfl, .inr ⟨rfl, A ++ Z.take 1, Z.drop 1, .slice (some ⟨g, 0, none⟩) (A ++ Z).length cap, ⟨hf.hF, ?_, ?_, ?_⟩, by omega, by rw [hA', List.length_drop]; omega, fun fin left hs => Ws.go_on hs hw⟩⟩
    · rw [hA']; exact h1.2.1
    · rw [hT]; exact Ws.own_back h1.2.2.2 hg
    · exact Ws.Fl.keepsTold hf.box hf.text hf.told (fun j hj hb ht => h3 j hj hb) (.inl rfl)
  · have hr0 := hE r (List.mem_of_getElem? hj)
    have hin := K.fits hr0 hm
    have hc := (K.ruleE_zero hr0).2.2.2.2.2.2
    have hrl := K.restOf_length (r := r) (rest := Z)
    by_cases hm4 : 4000 < A.length + (K.restOf r Z).length
    · refine (wstep_much _ _ w0 vl l R0 hl hE w hX bs g cap (A ++ Z) A.length hS (by omega) (by omega) j r hw hj hm (by omega)).mono ?_
      rintro e w' ⟨rfl, h1⟩
      exact ⟨0, 4, rfl, h1.mono hX.size, K.at_box (i := 2) (K.blk_below hf.box h1) rfl, .inl ⟨rfl, fun fin left hs => Ws.go_much hs hw hj hm4⟩⟩
    · have hT2 : A ++ K.restOf r Z = (A ++ Z).take A.length ++ r.target ++ (A ++ Z).drop (A.length + r.source.length) := by
        rw [← K.putL_rest]
        unfold K.putL
        rw [Int.toNat_natCast]
      refine (wstep_put _ _ (by decide) w0 vl l R0 hl hE w hX bs g cap (A ++ Z) A.length hS (by omega) (by omega) j r hw hj hm (by omega) (A ++ K.restOf r Z) hT2).mono ?_
      rintro e w' ⟨rfl, g', cap', h1, h2, h3, h5⟩
      have hcu : r.cursor.toNat ≤ (K.restOf r Z).length := by omega
      have hA' : (A ++ (K.restOf r Z).take r.cursor.toNat).length = A.length + r.cursor.toNat := by rw [List.length_append, List.length_take]; omega
      have hT : A ++ (K.restOf r Z).take r.cursor.toNat ++ (K.restOf r Z).drop r.cursor.toNat = A ++ K.restOf r Z := by rw [List.append_assoc, List.take_append_drop]
      refine ⟨(j : Int), 0, rfl, h2, K.at_list (i := 2) h1.2.1 rfl, .inr ⟨rfl, A ++ (K.restOf r Z).take r.cursor.toNat, (K.restOf r Z).drop r.cursor.toNat, .slice (some ⟨g', 0, none⟩) (A ++ K.restOf r Z).length cap', ⟨hf.hF, ?_, ?_, ?_⟩, by omega, by rw [hA', List.length_drop]; omega, fun fin left hs => Ws.go_put hs hw hj hm4⟩⟩
      · rw [hA', Int.natCast_add, show ((r.cursor.toNat : Nat) : Int) = r.cursor by omega]; exact h1.2.1
      · rw [hT]; exact Ws.own_back h1.2.2.2 h1.2.2.1
      · refine Ws.Fl.keepsTold hf.box hf.text hf.told (fun j hj hb ht => h3 j hj hb fun e => ht (by rw [e]; rfl)) ?_
        rcases h5 with rfl | h5
        · exact .inl rfl
        · exact .inr ⟨g', rfl, h5⟩

set_option maxHeartbeats 4000000 in
theorem wflowStep_any (w0 : World) (vl : Value) (l : List K.Rule) (R0 : V.Rus w0 vl l) (hl : l.length ≤ 200) (hE : ∀ r ∈ l, K.ruleE r = 0) (w : World) (hX : Below w0.heap.size w0 w) (bs : Nat) (ah : Nat) (tv vt : Value) (A Z : List Int) (came steps up : Nat) (ts : List (List Int)) (hf : Ws.Fl w0.heap.size bs w vl ah tv vt (A ++ Z) A.length came steps up ts) (h4 : A.length + Z.length ≤ 4000) (hz : 0 < Z.length) (hst : steps ≤ 100000) :
    Calls Try.prog 37 #[.pointer (some ⟨bs, 0, none⟩)] w fun e w' => ∃ x : Int, e = .returned (.int .i64 x) ∧ Below w0.heap.size w w' ∧ Ws.Stepped l w0.heap.size bs w w' vl ah vt A Z came steps up ts x := by
  have k5 : w.cell? ⟨bs, 5, none⟩ = some (.int .i64 steps) := K.at_box (i := 5) hf.box rfl
  have f5 : w.frozen? ⟨bs, 5, none⟩ = false := frozen_of_row w bs 5 _ _ hf.box
  obtain ⟨W, hW⟩ : ∃ W, W = w.setCell ⟨bs, 5, none⟩ (.int .i64 ((steps : Int) + 1)) := ⟨_, rfl⟩
  have hbx : W.heap[bs]? = some (.cells #[tv, .int .i64 A.length, vl, .int .i64 ah, .int .i64 came, .int .i64 ((steps + 1 : Nat) : Int), vt, .int .i64 up] 75) := by rw [hW]; exact heap_setCell_same w bs 5 _ _ _ hf.box
  have hoth : ∀ j, j ≠ bs → W.heap[j]? = w.heap[j]? := fun j hj => by rw [hW]; exact heap_setCell_other w ⟨bs, 5, none⟩ j _ (by simpa using hj)
  have hsz : W.heap.size = w.heap.size := by rw [hW]; simp
  have hBW : Below w0.heap.size w W := by rw [hW]; exact (Below.refl _ w).setCell (p := ⟨bs, 5, none⟩) hf.hF _
  have hfW : Ws.Fl w0.heap.size bs W vl ah tv vt (A ++ Z) A.length came (steps + 1) up ts := by
    exact ⟨hf.hF, hbx, Ws.kept1 hf.text fun g hg => hoth g (Ws.box_ne hf.text hf.box (by decide) g hg), Ws.Fl.keepsTold hf.box hf.text hf.told (fun j _ hb _ => hoth j hb) (.inl rfl)⟩
  have HSt : Hid (Calls Try.prog 55 #[.pointer (some ⟨bs, 0, none⟩), vl] W.drew fun e w' => ∃ k x : Int, e = .returned (.tuple #[.int .i64 k, .int .i64 x]) ∧ Below w0.heap.size W.drew w' ∧ w'.cell? ⟨bs, 2, none⟩ = some vl ∧ Ws.Stepped l w0.heap.size bs W.drew w' vl ah vt A Z came steps up ts x) := by
    refine wState_any w0 vl l R0 hl hE W.drew (hX.trans hBW).drew bs ah tv vt A Z came steps up ts ⟨hfW.hF, hfW.box, Ws.kept1 (w := W) hfW.text fun g hg => rfl, Ws.Fl.keepsTold (w := W) hfW.box hfW.text hfW.told (fun j _ _ _ => rfl) (.inl rfl)⟩ h4 hz
  have HBW : Hid (Below w0.heap.size w W) := hBW
  have HW : Hid (W = w.setCell ⟨bs, 5, none⟩ (.int .i64 ((steps : Int) + 1))) := hW
  have k2 : W.cell? ⟨bs, 2, none⟩ = some vl := K.at_box (i := 2) hbx rfl
  have HK : Hid (W.heap[bs]? = some (.cells #[tv, .int .i64 A.length, vl, .int .i64 ah, .int .i64 came, .int .i64 ((steps + 1 : Nat) : Int), vt, .int .i64 up] 75)) := hbx
  clear hW hfW hbx hoth hX hE R0 hBW hf
  go_enter Try.func37, Try.ntmps37
  go_wp2
  rw [← HW.out]
  go_region_held3 (fun w' => w'.cell? ⟨bs, 2, none⟩ = some vl) (first | exact hc2 | go_keep) (first | (go_at_call 55; refine HSt.out.mono ?_; rintro e w1 ⟨kk, x, rfl, b1, hc2, hs1⟩) | fail)
  have HF : Hid (Below w0.heap.size w w1 ∧ Ws.Stepped l w0.heap.size bs W.drew w1 vl ah vt A Z came steps up ts x) := ⟨HBW.out.drew.trans b1, hs1⟩
  clear b1 hs1 hc2 HSt k2
  go_wp2
  go_ret
  exact ⟨x, rfl, HF.out⟩
end Go.Proofs.Ytackaadejnbfmaa

/-
  Steps of a region that draws, by hand: an operation that is taken first, with its place told; a store where nothing else may come.
-/
namespace Go.Proofs.Ytackaadejnbfmaa
open Go.RowKit Go.Lib
namespace V
/-- an operation that is taken first, its place told -/
theorem take {P : Program} {ops : Array Oper} {Q : Exit → Act → World → Prop} {md : Region.Mode} {S : World → Prop} (i d : Nat) (v : Value) (L' : List Bool) {oi : Oper} {fuel : Nat} {listed : Array Bool} {a : Act} {w : World} (hi : ops[i]? = some oi) (hd : oi.dst = some d)
    (hl : listed.setIfInBounds i true = L'.toArray) (hs : Region.noSelect ops = true) (hf : Region.free md ops listed i = true) (hr : (Region.ready md ops listed).contains i = true)
    (hQ : ∀ c a w, Q (.panic c) (a.put (some d) v) w → Q (.panic c) a w) (hy : YieldsIf P ops S oi v a) (hS : S w)
    (h : wpAnyH P md ops Q S fuel L'.toArray (a.put (some d) v) w) : wpAnyH P md ops Q S (fuel + 1) listed a w :=
  wpAnyH_take hi hs hf hr (by rw [hd]; exact hQ) hy hS (by rw [hd, hl]; exact h)
/-- a struct that is stored, where nothing else may come -/
theorem stored {P : Program} {ops : Array Oper} {Q : Exit → Act → World → Prop} {md : Region.Mode} {S : World → Prop} (i : Nat) (L' : List Bool) (ty : TypeId) (x y : Operand) {oi : Oper} {fuel : Nat} {listed : Array Bool} {a : Act} {w : World} (hi : ops[i]? = some oi) (ho : oi.op = .store ty x y) (hgd : oi.guard = none) (hd : oi.dst = none)
    (hl : listed.setIfInBounds i true = L'.toArray) (hr : Region.ready md ops listed = [i]) (b o : Nat) (cells : List Value) (hx : a.eval x = .pointer (some ⟨b, o, none⟩)) (hy : a.eval y = .agg cells.toArray) (ht : w.there b o cells.length) (hinf : (P.info? ty).map (·.size) = some cells.length) (h1 : cells.all (·.oneCell') = true)
    (hS : S (w.setCells b o cells)) (h : wpAnyH P md ops Q S fuel L'.toArray a (w.setCells b o cells)) : wpAnyH P md ops Q S (fuel + 1) listed a w :=
  wpAnyH_ready hr (by simp) (AllReadyH.cons hi (fun KK hK => by
    have hw : Region.wanted oi (yielded ops a.tmps) = true := by simp [Region.wanted, hgd]
    rw [if_pos hw]
    refine wp_store_mid ty x y ho b o cells.toArray hx hy (by simpa using ht) (by simpa using hinf) (by simpa using h1) ?_
    rw [hd]
    exact hK.out _ _ (by simpa using hS) (fun _ => by rw [hl, show a.put none undef = a from rfl]; simpa using h)) AllReadyH.nil)
theorem run_storeVar_cell {P : Program} (w : World) (b o : Nat) (ty : TypeId) (u v : Value) (hc : w.cell? ⟨b, o, none⟩ = some u) (hf : w.frozen? ⟨b, o, none⟩ = false) (hi : (P.info? ty).map (·.size) = some 1) (h1 : v.oneCell' = true) :
    (storeVar ty ⟨b, o, none⟩ v).run P w = .ok () (w.setCell ⟨b, o, none⟩ v) := by
  have hcs : v.cells = #[v] := by cases v <;> first | rfl | cases h1
  cases hq : P.info? ty with
  | none => simp [hq] at hi
  | some i =>
    have hs : i.size = 1 := by simpa [hq] using hi
    have hz : (⟨b, o, none⟩ : Addr).add 0 = ⟨b, o, none⟩ := Addr.add_mid b o 0
    simp [storeVar, sizeOf, typeInfo, hq, hcs, hs, storeCells, run_store P w _ v _ h1, hz, hc, hf]
theorem stored1 {P : Program} {ops : Array Oper} {Q : Exit → Act → World → Prop} {md : Region.Mode} {S : World → Prop} (i : Nat) (L' : List Bool) (ty : TypeId) (x y : Operand) {oi : Oper} {fuel : Nat} {listed : Array Bool} {a : Act} {w : World} (hi : ops[i]? = some oi) (ho : oi.op = .store ty x y) (hgd : oi.guard = none) (hd : oi.dst = none)
    (hl : listed.setIfInBounds i true = L'.toArray) (hr : Region.ready md ops listed = [i]) (b o : Nat) (u v : Value) (hx : a.eval x = .pointer (some ⟨b, o, none⟩)) (hy : a.eval y = v) (hc : w.cell? ⟨b, o, none⟩ = some u) (hf : w.frozen? ⟨b, o, none⟩ = false) (hinf : (P.info? ty).map (·.size) = some 1) (h1 : v.oneCell' = true)
    (hS : S (w.setCell ⟨b, o, none⟩ v)) (h : wpAnyH P md ops Q S fuel L'.toArray a (w.setCell ⟨b, o, none⟩ v)) : wpAnyH P md ops Q S (fuel + 1) listed a w :=
  wpAnyH_ready hr (by simp) (AllReadyH.cons hi (fun KK hK => by
    have hw : Region.wanted oi (yielded ops a.tmps) = true := by simp [Region.wanted, hgd]
    rw [if_pos hw]
    unfold Oper.wp execOp
    simp only [ho, hx, hy, Instr.storeAt, Instr.sureAddr, Sem.run_bind, Sem.run_pure, Result.andThen_ok, run_storeVar_cell w b o ty u v hc hf hinf h1]
    show KK (a.put oi.dst undef) _
    rw [hd]
    exact hK.out _ _ hS (fun _ => by rw [hl, show a.put none undef = a from rfl]; exact h)) AllReadyH.nil)
end V
end Go.Proofs.Ytackaadejnbfmaa
