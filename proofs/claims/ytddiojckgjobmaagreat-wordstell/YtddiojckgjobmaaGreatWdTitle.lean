/-
  words.Title: the program's answer.
-/
import Derived.Test.YtddiojckgjobmaaGreatWdMath
import Derived.Test.YtddiojckgjobmaaGreatCnPass
import Derived.Test.YtddiojckgjobmaaGreatYRus
import Derived.Test.YtddiojckgjobmaaGreatQApp
import Derived.Test.YtddiojckgjobmaaGreatSWrong
import Derived.Test.YtddiojckgjobmaaGreatWdSplit
namespace Go.Proofs.YtddiojckgjobmaaGreat
open Go.RowKit Go.Lib
set_option maxRecDepth 20000
set_option linter.unusedSimpArgs false
set_option linter.unusedVariables false

namespace Wd
/-- block g holds X from its beginning on -/
def Holds (w : World) (g : Nat) (X : List Int) : Prop := ∃ cur : List Value, K.Row w g cur ∧ ∀ (j : Nat) z, X[j]? = some z → cur[j]? = some (.int .i32 z)
theorem Holds.cell {w : World} {g : Nat} {X : List Int} (h : Holds w g X) {j : Nat} {z : Int} (hj : X[j]? = some z) : w.cell? ⟨g, j, none⟩ = some (.int .i32 z) := by
  obtain ⟨cur, h1, h2⟩ := h
  rw [h1.cell]; exact h2 j z hj
theorem Holds.free {w : World} {g : Nat} {X : List Int} (h : Holds w g X) (j : Nat) : w.frozen? ⟨g, j, none⟩ = false := by
  obtain ⟨cur, h1, _⟩ := h
  exact h1.free j
theorem Holds.lt {w : World} {g : Nat} {X : List Int} (h : Holds w g X) : g < w.heap.size := by
  obtain ⟨cur, h1, _⟩ := h
  exact h1.lt
theorem Holds.below {w w' : World} {g : Nat} {X : List Int} (h : Holds w g X) (hb : Below w.heap.size w w') : Holds w' g X := by
  have hl := h.lt
  obtain ⟨cur, h1, h2⟩ := h
  exact ⟨cur, h1.block (hb.block g hl), h2⟩
theorem Holds.set {w : World} {g : Nat} {X : List Int} (h : Holds w g X) {i : Nat} (hi : i < X.length) (z : Int) : Holds (w.setCell ⟨g, i, none⟩ (.int .i32 z)) g (X.set i z) := by
  obtain ⟨cur, h1, h2⟩ := h
  have hc : i < cur.length := by
    have := h2 i X[i] (by simp [hi])
    exact (List.getElem?_eq_some_iff.1 this).1
  refine ⟨cur.set i (.int .i32 z), ?_, fun j y hj => ?_⟩
  · have := heap_setCell_same w g i _ _ (.int .i32 z) h1
    unfold K.Row
    rw [this]
    simp
  · rw [List.getElem?_set] at hj ⊢
    by_cases he : i = j
    · subst he
      rw [if_pos rfl, if_pos hi] at hj
      rw [if_pos rfl, if_pos hc]
      cases hj; rfl
    · rw [if_neg he] at hj ⊢
      exact h2 j y hj
theorem Holds.rd {w : World} {g : Nat} {X : List Int} (h : Holds w g X) (cap : Nat) : L.Rd w (.slice (some ⟨g, 0, none⟩) X.length cap) .i32 X :=
  ⟨_, _, rfl, fun e => by (cases e), fun _ => ⟨g, 0, rfl, fun j z hj => by rw [Nat.zero_add]; exact h.cell hj⟩⟩
/-- the first k of a piece are written -/
def upto (A S B : List Int) (k : Nat) : List Int := A ++ ((cap1 S).take k ++ S.drop k) ++ B
theorem cap1_len (S : List Int) : (cap1 S).length = S.length := by cases S <;> simp [cap1]
theorem cap1_at {S : List Int} {k : Nat} {z : Int} (h : S[k]? = some z) : (cap1 S)[k]? = some (if k = 0 then Cn.up z else Cn.low z) := by
  cases S with
  | nil => cases h
  | cons r S =>
    cases k with
    | zero => simp at h; subst h; rfl
    | succ k => simp only [cap1, List.getElem?_cons_succ, List.getElem?_map] at h ⊢; rw [h]; simp
theorem upto_len (A S B : List Int) (k : Nat) (hk : k ≤ S.length) : (upto A S B k).length = A.length + S.length + B.length := by
  unfold upto
  simp [cap1_len]; omega
theorem upto_at {A S B : List Int} {k : Nat} {z : Int} (h : S[k]? = some z) : (upto A S B k)[A.length + k]? = some z := by
  have hk := (List.getElem?_eq_some_iff.1 h).1
  have hz := (List.getElem?_eq_some_iff.1 h).2
  unfold upto
  rw [List.append_assoc, List.getElem?_append_right (by omega), List.append_assoc, List.getElem?_append_right (by rw [List.length_take]; omega)]
  have e : A.length + k - A.length - ((cap1 S).take k).length = 0 := by simp [cap1_len]; omega
  rw [e, List.drop_eq_getElem_cons hk, hz]; rfl
theorem upto_set {A S B : List Int} {k : Nat} {z : Int} (h : S[k]? = some z) : (upto A S B k).set (A.length + k) (if k = 0 then Cn.up z else Cn.low z) = upto A S B (k + 1) := by
  have hk := (List.getElem?_eq_some_iff.1 h).1
  have hz := (List.getElem?_eq_some_iff.1 h).2
  unfold upto
  rw [List.append_assoc, List.set_append, if_neg (by omega), List.append_assoc, List.set_append, if_neg (by rw [List.length_take]; omega)]
  have e : A.length + k - A.length - ((cap1 S).take k).length = 0 := by simp [cap1_len]; omega
  rw [e, List.drop_eq_getElem_cons hk, List.take_add_one, cap1_at h, List.cons_append, List.set_cons_zero]
  simp
end Wd

set_option maxHeartbeats 4000000 in
theorem capitalize_any (w : World) (g : Nat) (A S B : List Int) (hA : Wd.Holds w g (A ++ S ++ B)) (hS : ∀ r ∈ S, 0 ≤ r ∧ r ≤ 1114111) (hl : A.length + S.length + B.length ≤ 4000) (cap : Nat) :
    Calls Tryz.prog 18 #[.slice (some ⟨g, A.length, none⟩) S.length cap] w fun e w' => e = .returned (.tuple #[]) ∧ Wd.Holds w' g (A ++ Wd.cap1 S ++ B) ∧ Below g w w' := by
  have HU : Hid (∀ X r, 0 ≤ r → r ≤ 1114111 → Calls Tryz.prog 29 #[.int .i32 r] X fun e w' => e = .returned (.int .i32 (Cn.up r)) ∧ w' = X) := fun X r h1 h2 => zh7 r (by omega) (by omega) X
  have HL : Hid (∀ X r, 0 ≤ r → r ≤ 1114111 → Calls Tryz.prog 30 #[.int .i32 r] X fun e w' => e = .returned (.int .i32 (Cn.low r)) ∧ w' = X) := fun X r h1 h2 => zfw r (by omega) (by omega) X
  have H0 : Hid (Wd.Holds w g (Wd.upto A S B 0)) := by
    have e : Wd.upto A S B 0 = A ++ S ++ B := by unfold Wd.upto; simp
    show Wd.Holds _ _ _
    rw [e]; exact hA
  have HS : Hid (∀ r ∈ S, 0 ≤ r ∧ r ≤ 1114111) := hS
  have HLn : Hid (A.length + S.length + B.length ≤ 4000) := hl
  obtain ⟨n, hn⟩ : ∃ n, n = S.length := ⟨_, rfl⟩
  obtain ⟨a, ha⟩ : ∃ a, a = A.length := ⟨_, rfl⟩
  have hnl : n ≤ 4000 := by omega
  have hal : a ≤ 4000 := by omega
  rw [← hn, ← ha]
  have HN : Hid (n = S.length ∧ a = A.length) := ⟨hn, ha⟩
  clear hA hS hl hn ha
  go_enter Tryz.func18, Tryz.ntmps18
  go_wp2
  go_loopw [6] (fun i wr => ∃ k : Nat, k ≤ n ∧ i = .int .i64 k ∧ Hid (Wd.Holds wr g (Wd.upto A S B k)) ∧ Hid (Below g w wr)) (fun i _ => n - (RowKit.intOf i).toNat)
  case atStart => exact ⟨0, Nat.zero_le _, rfl, H0, Below.refl _ _⟩
  case round =>
    obtain ⟨k, hk, rfl, HH, HB⟩ := hrel
    by_cases hlt : k < n
    · obtain ⟨z, hz⟩ : ∃ z, S[k]? = some z := ⟨S[k]'(by rw [← HN.out.1]; exact hlt), by simp⟩
      have hb := HS.out z (List.mem_of_getElem? hz)
      have c0 : wr.cell? ⟨g, a + k, none⟩ = some (.int .i32 z) := HH.out.cell (by rw [HN.out.2]; exact Wd.upto_at hz)
      have fz : wr.frozen? ⟨g, a + k, none⟩ = false := HH.out.free _
      have hlt2 : A.length + k < (Wd.upto A S B k).length := by rw [Wd.upto_len _ _ _ _ (by rw [← HN.out.1]; exact hk)]; have := HN.out.1; omega
      have HX : Hid (∀ c, c = (if k = 0 then Cn.up z else Cn.low z) → Wd.Holds (wr.setCell ⟨g, a + k, none⟩ (.int .i32 c)) g (Wd.upto A S B (k + 1)) ∧ Below g w (wr.setCell ⟨g, a + k, none⟩ (.int .i32 c))) := fun c hc => by
        subst hc
        have h := HH.out.set hlt2 (if k = 0 then Cn.up z else Cn.low z)
        rw [Wd.upto_set hz] at h
        rw [HN.out.2]
        exact ⟨h, HB.out.setCell (p := ⟨g, A.length + k, none⟩) (Nat.le_refl _) _⟩
      have hU := HU.out wr z hb.1 hb.2
      have hL := HL.out wr z hb.1 hb.2
      clear hz hb hlt2
      by_cases h0 : k = 0
      · have hX := HX.out (Cn.up z) (by rw [if_pos h0])
        have HX2 : Hid (Wd.Holds (wr.setCell ⟨g, a + k, none⟩ (.int .i32 (Cn.up z))) g (Wd.upto A S B (k + 1)) ∧ Below g w (wr.setCell ⟨g, a + k, none⟩ (.int .i32 (Cn.up z)))) := hX
        clear hX HX hL
        generalize Cn.up z = c at hU HX2
        subst h0
        rw [Nat.add_zero] at c0 fz HX2
        go_wp2_with fail
        refine hU.mono ?_
        rintro e w1 ⟨rfl, rfl⟩
        go_wp2
        go_roundw
        case rel => exact ⟨0 + 1, by omega, by go_num, HX2.out.1, HX2.out.2⟩
        case measure => simp [RowKit.intOf]; omega
      · have hX := HX.out (Cn.low z) (by rw [if_neg h0])
        have HX2 : Hid (Wd.Holds (wr.setCell ⟨g, a + k, none⟩ (.int .i32 (Cn.low z))) g (Wd.upto A S B (k + 1)) ∧ Below g w (wr.setCell ⟨g, a + k, none⟩ (.int .i32 (Cn.low z)))) := hX
        clear hX HX hU
        generalize Cn.low z = c at hL HX2
        go_wp2_with fail
        refine hL.mono ?_
        rintro e w1 ⟨rfl, rfl⟩
        go_wp2
        go_roundw
        case rel => exact ⟨k + 1, by omega, by go_num, HX2.out.1, HX2.out.2⟩
        case measure => simp [RowKit.intOf]; omega
    · have hkn : k = n := by omega
      subst hkn
      have HE : Hid (Wd.Holds wr g (A ++ Wd.cap1 S ++ B)) := by
        have h := HH.out
        unfold Wd.upto at h
        rw [HN.out.1, List.drop_length, List.append_nil, ← Wd.cap1_len, List.take_length] at h
        exact h
      go_wp2
      refine bodyPost_end (results_none rfl _ _ _) rfl ?_
      exact ⟨rfl, HE.out, HB.out⟩

end Go.Proofs.YtddiojckgjobmaaGreat
namespace Go.Proofs.YtddiojckgjobmaaGreat
open Go.RowKit Go.Lib
set_option maxRecDepth 20000
set_option linter.unusedSimpArgs false
set_option linter.unusedVariables false

namespace Wd
theorem slice_mid (xo : Option Addr) (N xc i j : Nat) (h : i ≤ j) (hj : j ≤ xc) (w' : World) : (Instr.slice 26 (.slice xo N xc) (some (.int .i64 (i : Int))) (some (.int .i64 (j : Int))) none).run Tryz.prog w' = .ok (.slice (if xc = i then xo else Option.map (fun x => x.add i) xo) (j - i) (xc - i)) w' := by
  have a1 : (i : Int) ≤ j := by omega
  have a2 : (j : Int) ≤ xc := by omega
  have a0 : (0 : Int) ≤ i := by omega
  have a3 : (0 : Int) ≤ j := by omega
  go_simp
end Wd

set_option maxHeartbeats 1000000 in
theorem wdClone_any (w : World) (v : Value) (t : List Int) (R : L.Rd w v .i32 t) (hl : t.length ≤ 4000) :
    Calls Tryz.prog 17 #[v] w fun e w' => ∃ v', e = .returned v' ∧ w'.ownsRow w.heap.size 21 1 v' t.length (K.ints t) ∧ Below w.heap.size w w' := by
  obtain ⟨ao, cap, rfl, hn, hc⟩ := R
  obtain ⟨i0, hi, hz0, hz1, hz2⟩ := info_parts Tryz.infoI32
  have q22 : ∀ (w : World) (a : Option Addr) (n c n' c' : Nat), (binOp .eql 26 (.slice a n c) (.slice none n' c')).run Tryz.prog w = .ok (.bool a.isNone) w := fun w a n c n' c' => Lib.run_eql_slice_nil w _ _ a n c n' c' Tryz.underlying26
  cases ao with
  | none =>
    have h0 : t = [] := by
      cases t with
      | nil => rfl
      | cons z zs => obtain ⟨b, off, h, _⟩ := hc (by simp); simp at h
    subst h0
    have := hn rfl
    subst this
    clear hc
    go_enter Tryz.func17, Tryz.ntmps17
    go_wp2
    go_ret
    exact ⟨_, rfl, World.ownsRow_nil _ _ _ _, Below.refl _ _⟩
  | some ad =>
    have HC : Hid (∀ j u, (K.ints t)[j]? = some u → w.cell? (ad.add j) = some u) := by
      intro j u hj
      obtain ⟨z, hz, rfl⟩ := K.zb8 hj
      obtain ⟨b, off, hao, hcell⟩ := hc (by intro h; subst h; simp at hz)
      simp at hao
      subst hao
      rw [L.addr_add]
      exact hcell j z hz
    clear hc
    have OW : Hid ((w.alloc (.cells #[] 21)).ownsRow w.heap.size 21 1 (.slice (some ⟨w.heap.size, 0, none⟩) 0 0) 0 []) := World.ownsRow_made w #[] 0 (Nat.le_refl _) (Nat.zero_le _) (by simp)
    go_enter Tryz.func17, Tryz.ntmps17
    go_wp2_with (at_builtin; go_must (refine wpList_append_own _ rfl _ _ 26 rfl w.heap.size 21 i0 (.int .i32 0) 1 4 Tryz.underlying26 hi hz0 hz1 hz2 rfl (by decide) _ _ _ rfl OW.out ad t.length cap (K.ints t) rfl (by rw [K.zaj]; omega) (fun j u hj => Lib.cell?_alloc_some _ (HC.out j u hj)) (K.zcq t) (by unfold maxLen; omega) (by omega) (by simp) ?_; intro v' w3 hown' hgrow3 hnil3))
    go_ret
    refine ⟨v', rfl, by simpa using hown', ?_⟩
    exact ((Below.refl _ w).alloc (Nat.le_refl _) _).grown hgrow3 (by simp) (fun k hk => (OW.out.lt k hk).1)

end Go.Proofs.YtddiojckgjobmaaGreat
namespace Go.Proofs.YtddiojckgjobmaaGreat
open Go.RowKit Go.Lib
set_option maxRecDepth 20000
set_option linter.unusedSimpArgs false
set_option linter.unusedVariables false

namespace Wd
theorem al (X : World) (o : Obj) : Below X.heap.size X (X.alloc o) := (Below.refl _ X).alloc (Nat.le_refl _) o
theorem own_at {w : World} {F : Nat} {e : TypeId} {k : Nat} {v : Value} {n : Nat} {xs : List Value} (h : w.ownsRow F e k v n xs) {i : Nat} {u : Value} (hi : xs[i]? = some u) : ∃ g cap, v = .slice (some ⟨g, 0, none⟩) n cap ∧ F ≤ g ∧ n ≤ cap ∧ w.cell? ⟨g, i, none⟩ = some u := by
  have hil := (List.getElem?_eq_some_iff.1 hi).1
  rcases h.2 with ⟨_, h0⟩ | ⟨g, cap, cur, hv, hg, hrow, hc, _, hs, ht⟩
  · have := h.1; rw [h0] at this; omega
  · refine ⟨g, cap, hv, hg, hc, ?_⟩
    rw [← ht, List.getElem?_take] at hi
    split at hi
    · simp [World.cell?, hrow]; simpa using hi
    · cases hi
/-- a row of words, read -/
theorem at_word {w : World} {F : Nat} {wo : Option Addr} {n wc : Nat} {l : List Wo} (h : w.ownsRow F 32 3 (.slice wo n wc) l.length (wcells l)) {j : Nat} {x : Wo} (hj : l[j]? = some x) : ∃ q, wo = some ⟨q, 0, none⟩ ∧ q < w.heap.size ∧ ∀ X, Below w.heap.size w X → X.cell? ⟨q, j * 3, none⟩ = some (.int .i64 (x.1 : Nat)) ∧ X.cell? ⟨q, j * 3 + 1, none⟩ = some (.int .i64 (x.2.1 : Nat)) ∧ X.cell? ⟨q, j * 3 + 2, none⟩ = some (.bool x.2.2) := by
  obtain ⟨h0, h1, h2⟩ := wcells_at hj
  obtain ⟨q, cap, hv, _, _, c0⟩ := own_at h h0
  obtain ⟨q1, cap1, hv1, _, _, c1⟩ := own_at h h1
  obtain ⟨q2, cap2, hv2, _, _, c2⟩ := own_at h h2
  cases hv
  cases hv1
  cases hv2
  have hq := L.block_lt c0
  exact ⟨q, rfl, hq, fun X hX => ⟨(hX.cell (p := ⟨q, _, none⟩) hq).trans c0, (hX.cell (p := ⟨q, _, none⟩) hq).trans c1, (hX.cell (p := ⟨q, _, none⟩) hq).trans c2⟩⟩
theorem holds_own {w : World} {F : Nat} {oo : Option Addr} {oc : Nat} {t : List Int} (h : w.ownsRow F 21 1 (.slice oo t.length oc) t.length (K.ints t)) (hne : t ≠ []) : ∃ g, oo = some ⟨g, 0, none⟩ ∧ F ≤ g ∧ Holds w g t ∧ t.length ≤ oc := by
  rcases h.2 with ⟨_, h0⟩ | ⟨g, cap, cur, hv, hg, hrow, hc, _, hs, ht⟩
  · exact absurd (List.eq_nil_of_length_eq_zero h0) hne
  · cases hv
    refine ⟨g, rfl, hg, ⟨cur.toList, by unfold K.Row; rw [hrow], fun j z hj => ?_⟩, hc⟩
    have h1 : (K.ints t)[j]? = some (.int .i32 z) := by unfold K.ints; rw [List.getElem?_map, hj]; rfl
    rw [← ht, List.getElem?_take] at h1
    split at h1
    · exact h1
    · cases h1
theorem split_tx {A : List S.Sp} {t : List Int} (h : splitE A t = 0) : Cn.Tx t := by
  unfold splitE at h
  split at h
  · exact Cn.zdr.1 h
  · rename_i hh; exact absurd h hh
end Wd

set_option maxHeartbeats 4000000 in
theorem title_any (w : World) (v : Value) (A : List S.Sp) (R : S.Rd w v A) (hf : S.Fit A) (xo : Option Addr) (xc : Nat) (t : List Int) (Rt : L.Rd w (.slice xo t.length xc) .i32 t) (ht : t.length ≤ 140737488355328) :
    Calls Tryz.prog 6 #[v, .slice xo t.length xc] w fun e w' => ∃ v', e = .returned (.tuple #[v', .int .i64 (Wd.splitE A t)]) ∧ L.Rd w' v' .i32 (Wd.titleF A t) ∧ Below w.heap.size w w' := by
  have H1 := wSplit_any w v A R hf xo xc t Rt ht
  obtain ⟨e1, HE1⟩ : ∃ z, Hid (Wd.splitE A t = z) := ⟨_, rfl⟩
  obtain ⟨l, HLw⟩ : ∃ z, Hid (Wd.splitF A t = z) := ⟨_, rfl⟩
  rw [HE1.out, HLw.out] at H1
  have HIn : Hid (L.Rd w (.slice xo t.length xc) .i32 t) := Rt
  obtain ⟨va, vc, rfl⟩ := R.len
  clear R Rt
  go_enter Tryz.func6, Tryz.ntmps6
  go_wp2_with fail
  refine H1.mono ?_
  rintro e w1 ⟨v1, rfl, own1, b1⟩
  have HB1 : Hid (Below w.heap.size w w1) := b1
  obtain ⟨wo, wc, rfl, _⟩ := Al.lies own1
  have HW1 : Hid (w1.ownsRow w.heap.size 32 3 (.slice wo l.length wc) l.length (Wd.wcells l)) := own1
  clear H1 b1 own1
  by_cases q1 : e1 = 0
  · subst q1
    have h4 : t.length ≤ 4000 := (Wd.split_tx HE1.out).1
    have HTx : Hid (∀ r ∈ t, 0 ≤ r ∧ r ≤ 1114111) := (Wd.split_tx HE1.out).range
    have HLt : Hid (l = Wd.words (S.memb A) t ∧ Wd.titleF A t = Wd.title (S.memb A) false t) := by
      refine ⟨?_, ?_⟩
      · rw [← HLw.out]; unfold Wd.splitF; rw [if_pos HE1.out]
      · unfold Wd.titleF; rw [if_pos HE1.out]
    have hC := wdClone_any w1 (.slice xo t.length xc) t (HIn.out.below HB1.out (Nat.le_refl _)) h4
    go_wp2_with fail
    refine hC.mono ?_
    clear hC
    rintro e w2 ⟨v2, rfl, own2, b2⟩
    have HB2 : Hid (Below w.heap.size w w2 ∧ Below w1.heap.size w1 w2) := ⟨HB1.out.trans (b2.mono HB1.out.size), b2⟩
    obtain ⟨oo, oc, rfl, _⟩ := Al.lies own2
    have HW2 : Hid (t ≠ [] → ∃ g, oo = some ⟨g, 0, none⟩ ∧ w1.heap.size ≤ g ∧ Wd.Holds w2 g t ∧ t.length ≤ oc) := fun hne => Wd.holds_own own2 hne
    have HRd2 : Hid (L.Rd w2 (.slice oo t.length oc) .i32 t) := L.Rd.zaq own2
    clear own2 b2
    obtain ⟨n, hn⟩ : ∃ n, n = l.length := ⟨_, rfl⟩
    rw [← hn]
    have hnl : n ≤ 4000 := by rw [hn, HLt.out.1]; exact Nat.le_trans (Wd.rest_len (S.memb A) t 0) h4
    have HN : Hid (n = l.length) := hn
    clear hn
    go_wp2
    go_loopw [24] (fun i wr => ∃ (j k : Nat) (pre : List Int), j ≤ n ∧ i = .int .i64 j ∧ Hid (l.drop j = Wd.rest (S.memb A) t k ∧ k ≤ t.length ∧ pre = (l.take j).flatMap (Wd.capW t) ∧ pre.length = k) ∧ Hid (Below w.heap.size w wr ∧ Below w1.heap.size w1 wr) ∧ Hid (∀ g, oo = some ⟨g, 0, none⟩ → t ≠ [] → Wd.Holds wr g (pre ++ t.drop k))) (fun i _ => n - (RowKit.intOf i).toNat)
    case atStart => exact ⟨0, 0, [], Nat.zero_le _, rfl, ⟨by rw [List.drop_zero]; exact HLt.out.1, Nat.zero_le _, rfl, rfl⟩, HB2.out, fun g hg hne => by
      obtain ⟨g', h1, _, h3, _⟩ := HW2.out hne
      rw [h1] at hg; cases hg
      simpa using h3⟩
    case round =>
      obtain ⟨j, k, pre, hj, rfl, HI, HB, HH⟩ := hrel
      by_cases hlt : j < n
      · obtain ⟨x, hx⟩ : ∃ x, l[j]? = some x := ⟨l[j]'(by rw [← HN.out]; exact hlt), by simp⟩
        have hdr : Wd.rest (S.memb A) t k = x :: l.drop (j + 1) := by
          rw [← HI.out.1, List.drop_eq_getElem_cons (List.getElem?_eq_some_iff.1 hx).1, (List.getElem?_eq_some_iff.1 hx).2]
        obtain ⟨hk1, hk2, hk3, hk4, hk5⟩ := Wd.rest_head hdr
        obtain ⟨hs1, hs2⟩ := Wd.seg_head hdr
        have hne : t ≠ [] := by intro h; subst h; simp at hk1
        obtain ⟨g, rfl, hg1, _, hoc⟩ := HW2.out hne
        have hH := HH.out g rfl hne
        have hgl : g ≤ wr.heap.size := Nat.le_of_lt hH.lt
        obtain ⟨q, rfl, hq, hcl⟩ := Wd.at_word HW1.out hx
        obtain ⟨c0, c1, c2⟩ := hcl wr HB.out.2
        obtain ⟨a, b, bb⟩ := x
        simp only at hk2 hk3 hk4 hk5 hs1 hs2 c0 c1 c2
        subst hk2
        have HP : Hid (l.take (j + 1) = l.take j ++ [(a, b, bb)]) := by show _ = _; rw [List.take_add_one, hx]; rfl
        cases bb with
        | false =>
          have HI2 : Hid (l.drop (j + 1) = Wd.rest (S.memb A) t b ∧ b ≤ t.length ∧ pre ++ Wd.seg t (a, b, false) = (l.take (j + 1)).flatMap (Wd.capW t) ∧ (pre ++ Wd.seg t (a, b, false)).length = b) := by
            refine ⟨hk5, hk4, ?_, ?_⟩
            · rw [HP.out, List.flatMap_append, ← HI.out.2.2.1]; simp [Wd.capW, Wd.cap]
            · rw [List.length_append, HI.out.2.2.2, hs2]; omega
          have HH2 : Hid (∀ g', (some ⟨g, 0, none⟩ : Option Addr) = some ⟨g', 0, none⟩ → t ≠ [] → Wd.Holds wr g' ((pre ++ Wd.seg t (a, b, false)) ++ t.drop b)) := fun g' hg' _ => by
            cases hg'
            rw [List.append_assoc, ← hs1]; exact hH
          clear hdr hs1 hs2 hk5 hcl HH HI hx
          go_wp2
          go_roundw
          case rel => exact ⟨j + 1, b, _, by omega, by go_num, HI2, ⟨HB.out.1.alloc HB.out.1.size _, HB.out.2.alloc HB.out.2.size _⟩, fun g' hg' hn => (HH2.out g' hg' hn).below (Wd.al _ _)⟩
          case measure => simp [RowKit.intOf]; omega
        | true =>
          have hsl : ∀ w', (Instr.slice 26 (.slice (some ⟨g, 0, none⟩) t.length oc) (some (.int .i64 (a : Int))) (some (.int .i64 (b : Int))) none).run Tryz.prog w' = .ok (.slice (some ⟨g, a, none⟩) (b - a) (oc - a)) w' := fun w' => by
            have h := Wd.slice_mid (some ⟨g, 0, none⟩) t.length oc a b (by omega) (by omega) w'
            rw [if_neg (by omega), Option.map_some, L.addr_add, Nat.zero_add] at h
            exact h
          have hCap : ∀ o, Calls Tryz.prog 18 #[.slice (some ⟨g, a, none⟩) (b - a) (oc - a)] (wr.alloc o) fun e w' => e = .returned (.tuple #[]) ∧ Wd.Holds w' g (pre ++ Wd.cap1 (Wd.seg t (a, b, true)) ++ t.drop b) ∧ Below g (wr.alloc o) w' := fun o => by
            have h := capitalize_any (wr.alloc o) g pre (Wd.seg t (a, b, true)) (t.drop b) (by rw [List.append_assoc, ← hs1]; exact hH.below (Wd.al _ _)) (fun r hr => HTx.out r (List.mem_of_mem_drop (List.mem_of_mem_take hr))) (by rw [HI.out.2.2.2, hs2, List.length_drop]; omega) (oc - a)
            rw [HI.out.2.2.2, hs2] at h
            exact h
          have HI2 : Hid (l.drop (j + 1) = Wd.rest (S.memb A) t b ∧ b ≤ t.length ∧ pre ++ Wd.cap1 (Wd.seg t (a, b, true)) = (l.take (j + 1)).flatMap (Wd.capW t) ∧ (pre ++ Wd.cap1 (Wd.seg t (a, b, true))).length = b) := by
            refine ⟨hk5, hk4, ?_, ?_⟩
            · rw [HP.out, List.flatMap_append, ← HI.out.2.2.1]; simp [Wd.capW, Wd.cap]
            · rw [List.length_append, HI.out.2.2.2, Wd.cap1_len, hs2]; omega
          clear hdr hs1 hs2 hk5 hcl HH HI hx hH
          go_wp2_with fail
          refine (hCap _).mono ?_
          clear hCap
          rintro e w3 ⟨rfl, hH3, b3'⟩
          have b3 : Below g wr w3 := ((Below.refl _ wr).alloc hgl _).trans b3'
          clear b3'
          have HB3 : Hid (Below w.heap.size w w3 ∧ Below w1.heap.size w1 w3) := ⟨HB.out.1.trans (b3.mono (by have := HB1.out.size; omega)), HB.out.2.trans (b3.mono hg1)⟩
          have HH3 : Hid (∀ g', (some ⟨g, 0, none⟩ : Option Addr) = some ⟨g', 0, none⟩ → t ≠ [] → Wd.Holds w3 g' ((pre ++ Wd.cap1 (Wd.seg t (a, b, true))) ++ t.drop b)) := fun g' hg' _ => by cases hg'; exact hH3
          clear b3 hH3
          go_wp2
          go_roundw
          case rel => exact ⟨j + 1, b, _, by omega, by go_num, HI2, HB3, HH3⟩
          case measure => simp [RowKit.intOf]; omega
      · have hjn : j = n := by omega
        subst hjn
        have hfin : pre ++ t.drop k = Wd.titleF A t ∧ t.length ≤ k := by
          have h := HI.out
          rw [HN.out, List.drop_length, List.take_length] at h
          have h2 := Wd.rest_nil h.1.symm
          refine ⟨?_, h2⟩
          rw [List.drop_eq_nil_of_le h2, List.append_nil, h.2.2.1, HLt.out.1, Wd.title_words, HLt.out.2]
        have HF : Hid (L.Rd wr (.slice oo t.length oc) .i32 (Wd.titleF A t)) := by
          have hlen : (Wd.titleF A t).length = t.length := by rw [HLt.out.2, Wd.title_len]
          by_cases hne : t = []
          · obtain ⟨ao', cap', e', hz, _⟩ := HRd2.out
            cases e'
            have h0 : Wd.titleF A t = [] := List.eq_nil_of_length_eq_zero (by rw [hlen, hne]; rfl)
            rw [h0, hne]
            exact ⟨oo, oc, rfl, hz, fun h => absurd rfl h⟩
          · obtain ⟨g, rfl, _, _, _⟩ := HW2.out hne
            have h := (HH.out g rfl hne).rd oc
            rw [hfin.1, hlen] at h
            exact h
        clear hfin HH HI
        go_wp2
        refine bodyPost_ret (v := .tuple #[.slice oo t.length oc, .int .i64 0]) (by simp [results, Tryz.results6, go_sem, *]) rfl ?_
        exact ⟨_, by rw [HE1.out], HF.out, HB.out.1⟩
  · have HT : Hid (Wd.titleF A t = []) := by show _ = _; unfold Wd.titleF; rw [if_neg (by rw [HE1.out]; exact q1)]
    go_wp2
    refine bodyPost_ret (v := .tuple #[.slice none 0 0, .int .i64 e1]) (by simp [results, Tryz.results6, go_sem, *]) rfl ?_
    exact ⟨_, by rw [HE1.out], by rw [HT.out]; exact ⟨none, 0, rfl, fun _ => rfl, fun h => absurd rfl h⟩, HB1.out⟩

end Go.Proofs.YtddiojckgjobmaaGreat
