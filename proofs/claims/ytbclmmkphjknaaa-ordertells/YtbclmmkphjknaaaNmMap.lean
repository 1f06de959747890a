/-
  Runs of marks in the order of their classes: norm.sortMarks.
-/
import Derived.Test.YtbclmmkphjknaaaNmSub
import Derived.Test.YtbclmmkphjknaaaKRight
import Derived.Test.YtbclmmkphjknaaaRows
import Derived.Test.YtbclmmkphjknaaaFrame
import Derived.Maps.OwnSet
namespace Go.Proofs.Ytbclmmkphjknaaa
open Go.RowKit Go.Sort Go.Shelf
set_option maxRecDepth 20000
set_option linter.unusedSimpArgs false
set_option linter.unusedVariables false

namespace Nm
def lenOf : Value → Nat
  | .slice _ n _ => n
  | _ => 0
theorem slice_upto (xo : Option Addr) (N xc j : Nat) (hj : j ≤ xc) (w' : World) : (Instr.slice 22 (.slice xo N xc) none (some (.int .i64 (j : Int))) none).run Try.prog w' = .ok (.slice xo j xc) w' := by
  have a2 : (j : Int) ≤ xc := by omega
  have a3 : (0 : Int) ≤ j := by omega
  go_simp
theorem slice_from (xo : Option Addr) (N xc i : Nat) (h : i ≤ N) (hc : N ≤ xc) (w' : World) : (Instr.slice 22 (.slice xo N xc) (some (.int .i64 (i : Int))) none none).run Try.prog w' = .ok (.slice (if xc = i then xo else Option.map (fun x => x.add i) xo) (N - i) (xc - i)) w' := by
  have a1 : (i : Int) ≤ N := by omega
  have a2 : (N : Int) ≤ xc := by omega
  have a3 : (0 : Int) ≤ i := by omega
  go_simp
/-- where the sorting stands -/
def Sm (w wr : World) (F0 g n cap : Nat) (L : List Int) (k : Nat) : Prop :=
  ∃ D : List Int, D.length = k ∧ wr.ownsRow F0 21 1 (.slice (some ⟨g, 0, none⟩) n cap) n (K.ints (D ++ L.drop k)) ∧ Below F0 w wr ∧ (k < n → Ends D) ∧ L.foldl insR [] = (L.drop k).foldl insR D
end Nm

theorem nmSmEmpty (w : World) (a : Option Addr) (c : Nat) : Calls Try.prog 28 #[.slice a 0 c] w fun e w' => e = .returned (.tuple #[]) ∧ w' = w := by
  go_enter Try.func28, Try.ntmps28
  go_wp2
  go_loopw [0] (fun vl wr => vl = .slice a 0 c ∧ wr = w) (fun _ _ => 0)
  case atStart => exact ⟨rfl, rfl⟩
  case round =>
    obtain ⟨rfl, rfl⟩ := hrel
    go_wp2
    go_end0
    exact ⟨rfl, rfl⟩

set_option maxHeartbeats 4000000 in
theorem nmSmSome (w : World) (F0 g n cap : Nat) (ls : List Int) (own : w.ownsRow F0 21 1 (.slice (some ⟨g, 0, none⟩) n cap) n (K.ints ls)) (hn : ls.length = n) (hl : n ≤ 1000000) (hc : n ≤ cap) (hcm : cap ≤ maxLen) :
    Calls Try.prog 28 #[.slice (some ⟨g, 0, none⟩) n cap] w fun e w' => e = .returned (.tuple #[]) ∧ w'.ownsRow F0 21 1 (.slice (some ⟨g, 0, none⟩) n cap) n (K.ints (ls.foldl Nm.insR [])) ∧ Below F0 w w' := by
  have HS : Hid (Nm.Sm w w F0 g n cap ls 0) := ⟨[], rfl, by simpa using own, Below.refl _ _, fun _ => .inl rfl, rfl⟩
  have HN : Hid (ls.length = n) := hn
  have hcm2 : cap ≤ 9223372036854775807 := by unfold maxLen at hcm; omega
  clear own hn hcm
  go_enter Try.func28, Try.ntmps28
  go_wp2
  go_loopw [0] (fun vl wr => ∃ (k : Nat) (ad : Option Addr) (c r : Nat), vl = .slice ad r c ∧ k + r = n ∧ r ≤ c ∧ c ≤ cap ∧ Hid (0 < r → ad = some ⟨g, k, none⟩) ∧ Hid (Nm.Sm w wr F0 g n cap ls k)) (fun vl _ => Nm.lenOf vl)
  case atStart => exact ⟨0, _, cap, n, rfl, by omega, hc, Nat.le_refl _, fun _ => rfl, HS.out⟩
  case round =>
    obtain ⟨k, ad, c, r, rfl, hkr, hrc, hcc, HA, HM⟩ := hrel
    clear HS
    by_cases h0 : 0 < r
    · have ha := HA.out h0
      subst ha
      obtain ⟨D, hD, hO, hB, hE, hF⟩ := HM.out
      have hdl : (ls.drop k).length = r := by rw [List.length_drop, HN.out]; omega
      obtain ⟨m, hm⟩ : ∃ m, m = Nm.lead (ls.drop k) := ⟨_, rfl⟩
      have hmr : m ≤ r := by rw [hm, ← hdl]; exact Nm.lead_le _
      have hRd : L.Rd wr (.slice (some ⟨g, k, none⟩) r c) .i32 (ls.drop k) := ⟨_, _, by rw [hdl], fun e => by (cases e), fun _ => ⟨g, k, rfl, fun j z hj => by
        have h := hO.cells (g := g) rfl (k + j) (.int .i32 z) (by unfold K.ints; rw [List.getElem?_map, List.getElem?_append_right (by omega), show k + j - D.length = j by omega, hj]; rfl)
        rw [L.addr_add, Nat.zero_add] at h
        exact h⟩⟩
      have HMk : Hid (Calls Try.prog 32 #[.slice (some ⟨g, k, none⟩) r c] wr fun e w' => e = .returned (.int .i64 (m : Nat)) ∧ Below wr.heap.size wr w') := by
        rw [hm]
        exact nmMarks_any wr _ (ls.drop k) hRd (by omega)
      have hsl1 := Nm.slice_upto (some ⟨g, k, none⟩) r c m (by omega)
      obtain ⟨i, hi⟩ : ∃ i, i = min (m + 1) r := ⟨_, rfl⟩
      have hir : i ≤ r := by omega
      have hi0 : 0 < i := by omega
      have hsl2 := Nm.slice_from (some ⟨g, k, none⟩) r c i hir hrc
      obtain ⟨ad2, had2⟩ : ∃ ad2, ad2 = (if c = i then (some ⟨g, k, none⟩ : Option Addr) else Option.map (fun x : Addr => x.add i) (some ⟨g, k, none⟩)) := ⟨_, rfl⟩
      rw [← had2] at hsl2
      have HAd2 : Hid (ad2 = (if c = i then (some ⟨g, k, none⟩ : Option Addr) else some ⟨g, k + i, none⟩)) := by
        show _ = _
        rw [had2, Option.map_some, L.addr_add]
      have HAd : Hid (0 < r - i → ad2 = some ⟨g, k + i, none⟩) := fun h => by rw [had2, if_neg (by omega), Option.map_some, L.addr_add]
      have HSo : Hid (∀ w1, Below wr.heap.size wr w1 → Calls Try.prog 46 #[.slice (some ⟨g, k, none⟩) m c, .func (.func 47) #[] #[]] w1 fun e w' => e = .returned (.tuple #[]) ∧ Nm.Sm w w' F0 g n cap ls (k + i)) := fun w1 b1 => by
        have hO1 := L.owns_below hO b1 (Nat.le_refl _)
        have hB1 : Below F0 w w1 := hB.trans (b1.mono (Nat.le_trans (by have := (hO.lt g rfl); omega) (Nat.le_refl _)))
        have hsp : ls.drop k = (ls.drop k).take m ++ (ls.drop k).drop m := (List.take_append_drop m _).symm
        rw [hsp, ← List.append_assoc] at hO1
        obtain ⟨k1, k2⟩ := Nm.own_sub hO1
        have hMl : ((ls.drop k).take m).length = m := by rw [List.length_take]; omega
        rw [hD] at k1 k2
        refine (nmSort_any w1 g k m c ((ls.drop k).take m) k1 hMl (by omega)).mono fun e w' ⟨e1, S', s1, s2, s3⟩ => ⟨e1, ?_⟩
        obtain ⟨s4, _, s5⟩ := s3
        rw [hMl] at k2
        obtain ⟨o2, b2⟩ := k2 w' S' s5
        have hmk : (ls.drop k).take m = (ls.drop k).takeWhile Nm.isM := by rw [hm]; exact Nm.lead_take _
        have hS : S' = Nm.ssort ((ls.drop k).take m) := Nm.ssort_is (by rw [hmk]; exact Nm.take_marks _) s1 s2
        have hfold : (ls.drop k).foldl Nm.insR D = ((ls.drop k).drop m).foldl Nm.insR (D ++ S') := by
          conv => lhs; rw [hsp]
          rw [List.foldl_append, Nm.fold_run (hE (by omega)), hS]
        by_cases h1 : m < r
        · obtain ⟨x, t, hx⟩ : ∃ x t, (ls.drop k).drop m = x :: t := by
            cases h : (ls.drop k).drop m with
            | nil =>
              have h2 : ((ls.drop k).drop m).length = r - m := by rw [List.length_drop, hdl]
              rw [h] at h2
              simp at h2
              omega
            | cons x t => exact ⟨x, t, rfl⟩
          have hx0 : Nm.cls x = 0 := by
            rw [hm, Nm.lead_drop] at hx
            exact Nm.drop_none hx
          have ei : i = m + 1 := by omega
          have ht : ls.drop (k + i) = t := by
            have : ls.drop (k + i) = ((ls.drop k).drop m).drop 1 := by rw [List.drop_drop, List.drop_drop, ei]
            rw [this, hx]; rfl
          refine ⟨D ++ S' ++ [x], by simp; omega, ?_, hB1.trans b2, fun _ => .inr ⟨D ++ S', x, rfl, hx0⟩, ?_⟩
          · rw [ht]
            rw [hx] at o2
            have e : D ++ S' ++ [x] ++ t = D ++ S' ++ (x :: t) := by simp
            rw [e]; exact o2
          · rw [ht, hF, hfold, hx, List.foldl_cons, Nm.insR_zero hx0]
        · have em : m = r := by omega
          have ei : i = r := by omega
          have hx : (ls.drop k).drop m = [] := List.drop_eq_nil_of_le (by omega)
          have ht : ls.drop (k + i) = [] := List.drop_eq_nil_of_le (by rw [HN.out]; omega)
          refine ⟨D ++ S', by simp; omega, ?_, hB1.trans b2, fun h => by omega, ?_⟩
          · rw [ht, List.append_nil]
            rw [hx, List.append_nil] at o2
            exact o2
          · rw [ht, hF, hfold, hx]
      have hmz : (m : Int) + 1 ≤ r ∨ (r : Int) < m + 1 := by omega
      have HI : Hid (i = min (m + 1) r) := hi
      clear hD hO hB hE hF hdl hm hRd had2 HM HA hi
      go_wp2_with fail
      refine HMk.out.mono ?_
      clear HMk
      rintro e w1 ⟨rfl, b1⟩
      have hSo := HSo.out w1 b1
      clear HSo b1
      go_wp2_with fail
      refine hSo.mono ?_
      clear hSo
      rintro e w2 ⟨rfl, hSm⟩
      have HSm : Hid (Nm.Sm w w2 F0 g n cap ls (k + i)) := hSm
      clear hSm
      have HMi : Hid ((min ((m : Int) + 1) (r : Int)).toNat = i) := by
        show _ = _
        rw [HI.out]
        omega
      clear hsl2
      go_wp2
      go_roundw
      case rel => exact ⟨k + i, ad2, c - i, r - i, by rw [HMi.out, HAd2.out], by omega, by omega, by omega, HAd, HSm⟩
      case measure =>
        simp only [Nm.lenOf]
        rw [HMi.out]
        omega
    · have e : r = 0 := by omega
      subst e
      have hkn : k = n := by omega
      have HE : Hid (wr.ownsRow F0 21 1 (.slice (some ⟨g, 0, none⟩) n cap) n (K.ints (ls.foldl Nm.insR [])) ∧ Below F0 w wr) := by
        obtain ⟨D, hD, hO, hB, hE, hF⟩ := HM.out
        rw [List.drop_eq_nil_of_le (by rw [HN.out]; omega)] at hO hF
        rw [List.append_nil] at hO
        rw [hF]
        exact ⟨hO, hB⟩
      clear HM HA
      go_wp2
      go_end0
      exact ⟨rfl, HE.out⟩

end Go.Proofs.Ytbclmmkphjknaaa

/-
  Maps in memory whose keys are numbers: what is at each key, as raw values.
-/
namespace Go.Proofs.Ytbclmmkphjknaaa
open Go.RowKit Go.Maps Go.WideMaps
set_option linter.unusedVariables false
set_option linter.unusedSimpArgs false

namespace Nm
/-- an element is the value that it is -/
def raw (v : Value) : Option (DataW Value × List MemPlace) := some (.held v, [])
/-- BLOCK B IS A MAP OF AT MOST n KEYS, AND f SAYS WHAT IS AT EACH (kl: a key's literal; ok: which keys). -/
def MapG {κ : Type} (kt : TypeId) (kl : κ → Lit) (ok : κ → Prop) (z : Value) (w : World) (B n : Nat) (f : κ → Option Value) : Prop :=
  ∃ D : DataW Value, w.ownsMap Try.prog kt raw B n D ∧ IsMap D ∧ ∀ s, ok s → Maps.has D (kl s) = (f s).isSome ∧ D.atKey (kl s) (.held z) = .held ((f s).getD z)
section
variable {κ : Type} {kt : TypeId} {kl : κ → Lit} {ok : κ → Prop} {z : Value}
theorem MapG.made (w : World) : MapG kt kl ok z (w.alloc (.map #[] 0)) w.heap.size 0 fun _ => none :=
  ⟨.map [], World.ownsMap_made w _ _ _, ⟨[], rfl⟩, fun s _ => ⟨rfl, rfl⟩⟩
theorem MapG.lt {w : World} {B n : Nat} {f : κ → Option Value} (h : MapG kt kl ok z w B n f) : B < w.heap.size := by
  obtain ⟨D, h1, _⟩ := h; exact h1.lt
theorem MapG.block {w w' : World} {B n : Nat} {f : κ → Option Value} (h : MapG kt kl ok z w B n f) (e : w'.heap[B]? = w.heap[B]?) : MapG kt kl ok z w' B n f := by
  obtain ⟨D, ⟨es, clock, hb, F, hs, hD⟩, h2⟩ := h
  exact ⟨D, ⟨es, clock, e.trans hb, F, hs, hD⟩, h2⟩
theorem MapG.below {w w' : World} {B n X : Nat} {f : κ → Option Value} (h : MapG kt kl ok z w B n f) (hb : Below X w w') (hX : B < X) : MapG kt kl ok z w' B n f := h.block (hb.block B hX)
theorem MapG.look_ok {w : World} {B n : Nat} {f : κ → Option Value} (h : MapG kt kl ok z w B n f) {t e : TypeId} (K : Keyed Try.prog kt) (ht : Try.prog.underlying t = some (.map kt e)) (hz : ∀ w, (zeroValue e).run Try.prog w = .ok z w) (s : κ) (hs : ok s) (key : Value) (hk : keyOf Try.prog kt key = some (kl s)) :
    (Instr.lookup t (.map (some B)) key true).run Try.prog w = .ok (.tuple #[(f s).getD z, .bool (f s).isSome]) w := by
  obtain ⟨D, h1, h2, h3⟩ := h
  obtain ⟨v, ps, hrun, hv⟩ := h1.look_ok (t := t) (e := e) K ht (hz w) (zd := .held z) (zp := []) rfl (key := key) hk
  rw [(h3 s hs).2] at hv
  simp only [raw, Option.some.injEq, Prod.mk.injEq, DataW.held.injEq] at hv
  rw [hrun, hv.1, (h3 s hs).1]
theorem MapG.put {w : World} {B n : Nat} {f : κ → Option Value} (h : MapG kt kl ok z w B n f) {t e : TypeId} (K : Keyed Try.prog kt) (ht : Try.prog.underlying t = some (.map kt e)) (hn : n ≤ 140737488355328) (s : κ) (hs : ok s) (key : Value) (hk : keyOf Try.prog kt key = some (kl s)) (hlit : ∀ s, ok s → WideAt.IsKeyLit (kl s)) (hinj : ∀ a b, ok a → ok b → kl a = kl b → a = b) [DecidableEq κ] (v : Value) :
    ∃ w', (Instr.mapUpdate t (.map (some B)) key v).run Try.prog w = .ok () w' ∧ MapG kt kl ok z w' B (n + 1) (fun x => if x = s then some v else f x) ∧ w.grownBy w' (some B) := by
  obtain ⟨D, h1, h2, h3⟩ := h
  obtain ⟨w', hrun, r1, r2⟩ := h1.update (t := t) (e := e) K ht (by unfold maxLen; omega) (key := key) hk (val := v) (d := .held v) (ps := []) rfl
  refine ⟨w', hrun, ⟨_, r1, h2.put _ _, fun x hx => ?_⟩, r2⟩
  by_cases e : x = s
  · subst e
    rw [has_put_same h2 (hlit x hx), atKey_put_same h2 (hlit x hx)]
    simp
  · have hne : kl x ≠ kl s := fun h => e (hinj x s hx hs h)
    rw [has_put_other hne, atKey_put_other hne, (h3 x hx).1, (h3 x hx).2]
    simp [e]
end
end Nm
end Go.Proofs.Ytbclmmkphjknaaa
