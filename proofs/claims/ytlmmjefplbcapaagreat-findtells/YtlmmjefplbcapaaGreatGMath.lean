/-
  The rules that begin with a rune: compile.which, and what Compile asks of each rule.
-/
import Derived.Test.YtlmmjefplbcapaaGreatYRus
import Derived.Test.YtlmmjefplbcapaaGreatSHas7
import Derived.Deep.RegionWith
import Derived.WalkKit
namespace Go.Proofs.YtlmmjefplbcapaaGreat
open Go.RowKit Go.Shelf
set_option maxRecDepth 20000
set_option linter.unusedSimpArgs false
set_option linter.unusedVariables false

theorem Tryz.infoIntJ : (Tryz.prog.info? 3).map (fun i => (i.zero, i.size, i.bytes)) = some (some (.int .i64 0), 1, 8) := by kernel_rfl

namespace J
/-- the numbers of those that are wanted -/
def which (f : K.Rule → Bool) : Nat → List K.Rule → List Int
  | _, [] => []
  | i, r :: l => (if f r then [(i : Int)] else []) ++ which f (i + 1) l
theorem which_append (f : K.Rule → Bool) (a b : List K.Rule) : ∀ i, which f i (a ++ b) = which f i a ++ which f (i + a.length) b := by
  induction a with
  | nil => intro i; simp [which]
  | cons x a ih => intro i; simp only [List.cons_append, which, ih, List.append_assoc, List.length_cons]; rw [show i + 1 + a.length = i + (a.length + 1) by omega]
theorem which_take {f : K.Rule → Bool} {l : List K.Rule} {k : Nat} {r : K.Rule} (h : l[k]? = some r) : which f 0 (l.take (k + 1)) = which f 0 (l.take k) ++ (if f r then [(k : Int)] else []) := by
  have hk := (List.getElem?_eq_some_iff.1 h).1
  rw [List.take_add_one, h, which_append]
  simp [which, Nat.min_eq_left (Nat.le_of_lt hk)]
theorem which_len (f : K.Rule → Bool) (l : List K.Rule) : ∀ i, (which f i l).length ≤ l.length := by
  induction l with
  | nil => intro i; simp [which]
  | cons x l ih =>
    intro i
    have := ih (i + 1)
    simp only [which, List.length_append, List.length_cons]
    split <;> simp <;> omega
end J

set_option maxHeartbeats 1000000 in
theorem jBegins_any (w : World) (va : Value) (r : K.Rule) (low : Int) (bx : Nat) (Ra : K.RuIs w va r) (hr : K.ruleE r = 0) (hc : w.heap[bx]? = some (.cells #[.int .i32 low] 21)) :
    Calls Tryz.prog 68 (#[va] ++ #[.pointer (some ⟨bx, 0, none⟩)]) w fun e w' => e = .returned (.bool (S.memb (K.headS r) low)) ∧ Below w.heap.size w w' := by
  have hbl := (Array.getElem?_eq_some_iff.1 hc).1
  have x0 : ∀ o, (w.alloc o).cell? ⟨bx, 0, none⟩ = some (.int .i32 low) := fun o => K.alloc_cell (K.at_box (i := 0) hc rfl) o
  obtain ⟨s, hs⟩ : ∃ s, r.source[0]? = some s := ⟨r.source[0]'(K.ruleE_zero hr).2.2.2.1, by simp⟩
  have hok := K.head_ok hr
  rw [K.head_at hs] at hok ⊢
  obtain ⟨bo, bc, so, sc, ao, ac, tt, tc, rfl, _, hS, _⟩ := Ra
  have hsl := (K.ruleE_zero hr).2.2.2.1
  obtain ⟨gb, go, s2, c2, rfl, hc0, hr0, _⟩ := hS.at hs
  rw [Nat.add_zero] at hc0
  have hcc : ∀ o, (w.alloc o).cell? ⟨gb, go, none⟩ = some (.slice s2 s.length c2) := fun o => K.alloc_cell hc0 o
  have HH : Hid (∀ o W, Below (w.alloc o).heap.size (w.alloc o) W → Calls Tryz.prog 69 #[.slice s2 s.length c2, .int .i32 low] W fun e w' => e = .returned (.bool (S.memb s low)) ∧ Below w.heap.size w w') := fun o W hW => by
    have hB : Below w.heap.size w W := ((Below.refl _ w).alloc (Nat.le_refl _) o).trans (hW.mono (by simp))
    exact (has_any W _ s low (hr0.below hB (Nat.le_refl _)) hok.1 hok.2).mono fun e w' ⟨h1, h2⟩ => ⟨h1, hB.trans (h2.mono hB.size)⟩
  clear hc hs hok hS hr0 hc0 hr
  show Calls Tryz.prog 68 #[_, .pointer (some ⟨bx, 0, none⟩)] w _
  go_enter Tryz.func68, Tryz.ntmps68
  go_wp2_with fail
  go_region_with (go_at_call 69; refine (HH.out _ _ (by first | exact Below.refl _ _ | exact (Below.refl _ _).drew)).mono ?_; rintro e w1 ⟨rfl, z1⟩)
  all_goals go_wp2
  all_goals go_ret
  all_goals exact ⟨rfl, by assumption⟩

set_option maxHeartbeats 4000000 in
theorem jWhich_any (w : World) (v : Value) (l : List K.Rule) (R0 : V.Rus w v l) (hl : l.length ≤ 200) (g : Nat) (cb : Array Value) (P : K.Rule → Bool) (eg : ∀ args w, (callFunc g args).run Tryz.prog w = .ok (.enter g args) w)
    (hh : ∀ W r u, Below w.heap.size w W → r ∈ l → K.RuIs W u r → Calls Tryz.prog g (#[u] ++ cb) W fun e w' => e = .returned (.bool (P r)) ∧ Below W.heap.size W w') :
    Calls Tryz.prog 70 #[v, .func (.func g) #[] cb] w fun e w' => ∃ v', e = .returned v' ∧ w'.ownsRow w.heap.size 3 1 v' (J.which P 0 l).length ((J.which P 0 l).map (Value.int .i64)) ∧ Below w.heap.size w w' := by
  have HR : Hid (V.Rus w v l) := R0
  obtain ⟨i0, hi, hz0, hz1, hz2⟩ := info_parts Tryz.infoIntJ
  obtain ⟨ao, cap, rfl⟩ := R0.len
  have HF : Hid (∀ W r u, Below w.heap.size w W → r ∈ l → K.RuIs W u r → Calls Tryz.prog g (#[u] ++ cb) W fun e w' => e = .returned (.bool (P r)) ∧ Below W.heap.size W w') := hh
  clear R0 hh
  go_enter Tryz.func70, Tryz.ntmps70
  go_wp2_with fail
  go_loopw [5, 10] (fun vo i wr => ∃ k : Nat, k ≤ l.length ∧ i = .int .i64 k ∧ Hid (wr.ownsRow w.heap.size 3 1 vo (J.which P 0 (l.take k)).length ((J.which P 0 (l.take k)).map (Value.int .i64)) ∧ Below w.heap.size w wr)) (fun _ i _ => l.length - (RowKit.intOf i).toNat)
  case atStart => exact ⟨0, Nat.zero_le _, rfl, World.ownsRow_nil _ _ _ _, Below.refl _ _⟩
  case round =>
    obtain ⟨k, hk, rfl, HO⟩ := hrel
    have hwr := HO.out.2.size
    by_cases hlt : k < l.length
    · obtain ⟨p, hp⟩ : ∃ x, l[k]? = some x := ⟨l[k], by simp [hlt]⟩
      obtain ⟨ba, oa, bo, bc, so, sc, ao2, ac, tt, tc, rfl, a0, a1, a2, a3, a4, a5, a6, hP⟩ := K.Rus.rule (HR.out.below HO.out.2) hp
      have HT : Hid (J.which P 0 (l.take (k + 1)) = J.which P 0 (l.take k) ++ (if P p then [(k : Int)] else [])) := J.which_take hp
      have HC : Hid (∀ o, Calls Tryz.prog g (#[.agg #[.bool p.start, .bool p.fin, .slice bo p.before.length bc, .slice so p.source.length sc, .slice ao2 p.after.length ac, .slice tt p.target.length tc, .int .i64 p.cursor]] ++ cb) (wr.alloc o) fun e w' => e = .returned (.bool (P p)) ∧ (w'.ownsRow w.heap.size 3 1 u5 (J.which P 0 (l.take k)).length ((J.which P 0 (l.take k)).map (Value.int .i64)) ∧ Below w.heap.size w w')) := fun o => by
        have hB : Below wr.heap.size wr (wr.alloc o) := (Below.refl _ wr).alloc (Nat.le_refl _) o
        refine (HF.out (wr.alloc o) p _ (HO.out.2.trans (hB.mono hwr)) (List.mem_of_getElem? hp) (hP.below hB)).mono fun e w' ⟨h1, h2⟩ => ⟨h1, L.owns_below (HO.out.1.alloc o) h2 (Nat.le_refl _), ?_⟩
        exact (HO.out.2.trans (hB.mono hwr)).trans (h2.mono (by simp; omega))
      have hlen := J.which_len P (l.take k) 0
      rw [List.length_take] at hlen
      generalize hZ : P p = z at HT HC
      clear hp hP hZ
      obtain ⟨st, fi, be, sou, af, ta, cu⟩ := p
      simp only at a0 a1 a2 a3 a4 a5 a6 HC
      generalize hU : J.which P 0 (l.take k) = U at HT HC hlen
      clear hU HO
      go_wp2_with fail
      refine (HC.out _).mono ?_
      rintro e w3 ⟨rfl, own3, b3⟩
      have HO3 : Hid (w3.ownsRow w.heap.size 3 1 u5 U.length (U.map (Value.int .i64))) := own3
      have HB3 : Hid (Below w.heap.size w w3) := b3
      have hw3 : w.heap.size ≤ w3.heap.size := b3.size
      have hblk : Hid (∀ g, u5.ownBlock = some g → w.heap.size ≤ g) := fun g hg => by
        obtain ⟨_, ⟨rfl, _⟩ | ⟨g', cap', cur', rfl, hb', _⟩⟩ := own3
        · cases hg
        · cases hg; exact hb'
      clear own3 b3 a0 a1 a2 a3 a4 a5 a6 HC
      cases z with
      | false =>
        go_wp2
        go_roundw
        case rel =>
          refine ⟨k + 1, by omega, by go_num, ?_⟩
          rw [HT.out, if_neg (by decide), List.append_nil]
          exact ⟨HO3.out, HB3.out⟩
        case measure => simp [RowKit.intOf]; omega
      | true =>
        go_wp2_with (at_builtin; go_must (refine wpList_append_own _ rfl _ _ 72 rfl w.heap.size 3 i0 (.int .i64 0) 1 8 Tryz.underlying72 hi hz0 hz1 hz2 rfl (by decide) _ _ _ rfl (HO3.out.alloc _) ⟨w3.heap.size, 0, none⟩ 1 1 [.int .i64 (k : Int)] rfl rfl (cell_one_new _ _ _) (fun x hx => by simp at hx; subst hx; rfl) (by unfold maxLen; omega) (by omega) (by simp; omega) ?_; intro v' w4 hown' hgrow4 hnil4))
        have HX4 : Hid (w4.ownsRow w.heap.size 3 1 v' (U.length + 1) (U.map (Value.int .i64) ++ [.int .i64 (k : Int)]) ∧ Below w.heap.size w w4) := ⟨hown', Below.grown (HB3.out.alloc hw3 _) hgrow4 (by simp; omega) (fun j hj => hblk.out j hj)⟩
        go_roundw
        case rel =>
          refine ⟨k + 1, by omega, by go_num, ?_⟩
          rw [HT.out, if_pos trivial, List.length_append, List.map_append]
          exact HX4.out
        case measure => simp [RowKit.intOf]; omega
    · have hke : k = l.length := by omega
      subst hke
      rw [List.take_length] at HO
      go_wp2
      go_ret
      exact ⟨_, rfl, HO.out⟩

end Go.Proofs.YtlmmjefplbcapaaGreat

/-
  Heads in memory, being made.
-/
namespace Go.Proofs.YtlmmjefplbcapaaGreat
open Go.RowKit Go.Shelf
set_option maxRecDepth 20000
set_option linter.unusedSimpArgs false
set_option linter.unusedVariables false

theorem Tryz.infoHead : (Tryz.prog.info? 76).map (fun i => (i.zero, i.size, i.bytes)) = some (some (.agg #[.int .i32 0, .int .i32 0, .slice none 0 0]), 3, 32) := by kernel_rfl

namespace J
abbrev Hd := Int × Int × List Int
def cells (ps : List (Hd × Value)) : List Value := ps.flatMap fun p => [.int .i32 p.1.1, .int .i32 p.1.2.1, p.2]
theorem cells_append (a b : List (Hd × Value)) : cells (a ++ b) = cells a ++ cells b := by simp [cells]
theorem cells_length (a : List (Hd × Value)) : (cells a).length = a.length * 3 := by
  induction a with
  | nil => rfl
  | cons x a ih => unfold cells at ih ⊢; rw [List.flatMap_cons, List.length_append, ih]; simp; omega
/-- a row of heads of the call's own, each with its rules' row -/
def Own (F : Nat) (w : World) (v : Value) (hs : List Hd) : Prop :=
  ∃ ps : List (Hd × Value), ps.map (·.1) = hs ∧ w.ownsRow F 76 3 v hs.length (cells ps) ∧ ∀ p ∈ ps, w.ownsRow F 3 1 p.2 p.1.2.2.length (p.1.2.2.map (Value.int .i64))
theorem Own.nil (F : Nat) (w : World) : Own F w (.slice none 0 0) [] := ⟨[], rfl, World.ownsRow_nil _ _ _ _, fun p hp => by cases hp⟩
theorem Own.below {F : Nat} {w w' : World} {v : Value} {hs : List Hd} (h : Own F w v hs) (hb : Below w.heap.size w w') : Own F w' v hs := by
  obtain ⟨ps, h1, h2, h3⟩ := h
  exact ⟨ps, h1, L.owns_below h2 hb (Nat.le_refl _), fun p hp => L.owns_below (h3 p hp) hb (Nat.le_refl _)⟩
theorem Own.base {F F' : Nat} {w : World} {v : Value} {hs : List Hd} (h : Own F w v hs) (hf : F' ≤ F) : Own F' w v hs := by
  obtain ⟨ps, h1, h2, h3⟩ := h
  exact ⟨ps, h1, L.owns_base h2 hf, fun p hp => L.owns_base (h3 p hp) hf⟩
theorem kept {F : Nat} {e : TypeId} {k : Nat} {w w' : World} {v : Value} {n : Nat} {xs : List Value} (h : w.ownsRow F e k v n xs) (hb : ∀ g, F ≤ g → w'.heap[g]? = w.heap[g]?) : w'.ownsRow F e k v n xs := by
  obtain ⟨h1, h2⟩ := h
  refine ⟨h1, ?_⟩
  rcases h2 with h2 | ⟨g, cap, cur, hv, hg, hx, r⟩
  · exact .inl h2
  · exact .inr ⟨g, cap, cur, hv, hg, by rw [hb g hg]; exact hx, r⟩
theorem Own.kept {F : Nat} {w w' : World} {v : Value} {hs : List Hd} (h : Own F w v hs) (hb : ∀ g, F ≤ g → w'.heap[g]? = w.heap[g]?) : Own F w' v hs := by
  obtain ⟨ps, h1, h2, h3⟩ := h
  exact ⟨ps, h1, J.kept h2 hb, fun p hp => J.kept (h3 p hp) hb⟩
theorem three (W : World) (a b : Int) (r : Value) : ∀ j u, ([Value.int .i32 a, .int .i32 b, r] : List Value)[j]? = some u → (W.alloc (.cells #[.int .i32 a, .int .i32 b, r] 76)).cell? ((⟨W.heap.size, 0, none⟩ : Addr).add j) = some u := by
  intro j u hj
  have e : (W.alloc (.cells #[.int .i32 a, .int .i32 b, r] 76)).heap[W.heap.size]? = some (.cells #[.int .i32 a, .int .i32 b, r] 76) := by
    show (W.heap.push _)[W.heap.size]? = _
    exact Array.getElem?_push_size
  rw [L.addr_add, Nat.zero_add]
  match j, hj with
  | 0, hj => exact K.at_box e (by simpa using hj)
  | 1, hj => exact K.at_box e (by simpa using hj)
  | 2, hj => exact K.at_box e (by simpa using hj)
  | n + 3, hj => simp at hj
theorem one_cell {F : Nat} {e : TypeId} {k : Nat} {w : World} {v : Value} {n : Nat} {xs : List Value} (h : w.ownsRow F e k v n xs) : v.oneCell' = true := by
  obtain ⟨_, ⟨rfl, _⟩ | ⟨g, cap, cur, rfl, _⟩⟩ := h <;> rfl
/-- one head more -/
theorem Own.push {F : Nat} {w0 w : World} {v : Value} {hs : List Hd} (h : Own F w v hs) (hB : Below F w0 w) (hF : F ≤ w.heap.size) (hl : hs.length ≤ 2000000) (a b : Int) (rs : List Int) (r : Value) (hr : w.ownsRow F 3 1 r rs.length (rs.map (Value.int .i64))) :
    ∃ v' w', (Builtin.append_ #[57, 57] 57 #[v, .slice (some ⟨w.heap.size, 0, none⟩) 1 1]).run Tryz.prog (w.alloc (.cells #[.int .i32 a, .int .i32 b, r] 76)) = .ok v' w' ∧ Own F w' v' (hs ++ [(a, b, rs)]) ∧ Below F w0 w' := by
  obtain ⟨i0, hi, hz0, hz1, hz2⟩ := info_parts Tryz.infoHead
  obtain ⟨ps, h1, h2, h3⟩ := h
  obtain ⟨v', w', hrun, own, gr, _⟩ := run_append_own (P := Tryz.prog) (w.alloc (.cells #[.int .i32 a, .int .i32 b, r] 76)) F 57 57 76 i0 _ 3 32 Tryz.underlying57 hi hz0 hz1 hz2 rfl (by decide) v hs.length (cells ps) (h2.alloc _) ⟨w.heap.size, 0, none⟩ 1 1 [.int .i32 a, .int .i32 b, r] rfl (three w a b r)
    (fun u hu => by simp at hu; rcases hu with rfl | rfl | rfl; rfl; rfl; exact one_cell hr) (by unfold maxLen; omega) (by omega) (by simp; omega)
  refine ⟨v', w', hrun, ⟨ps ++ [((a, b, rs), r)], by simp [h1], ?_, fun p hp => ?_⟩, L.push_below hB h2 (Nat.le_refl _) hF gr⟩
  · rw [cells_append, List.length_append]
    exact own
  · rcases List.mem_append.1 hp with hp | hp
    · exact L.push_other h2 (h3 p hp) (by decide) gr
    · simp at hp
      subst hp
      exact L.push_other h2 hr (by decide) gr

theorem step_run {t : TypeId} {ops : Array Oper} {o : Oper} {a : Act} {w : World} {K : Act → World → Prop} {Q : Exit → Act → World → Prop} {E : Prop} (hgd : o.guard = none) (s x : Operand)
    (ho : o.op = .call { callee := .builtin .append, args := #[s, x], argTypes := #[t, t] }) (v vx v' : Value) (w' : World) (hs : a.eval s = v) (hx : a.eval x = vx)
    (hrun : (Builtin.append_ #[t, t] o.type #[v, vx]).run Tryz.prog w = .ok v' w') (h : K (a.put o.dst v') w') :
    if Region.wanted o (yielded ops a.tmps) = true then Oper.wp Tryz.prog o a w K Q else E := by
  have hw : Region.wanted o (yielded ops a.tmps) = true := by simp [Region.wanted, hgd]
  rw [if_pos hw]
  unfold Oper.wp
  simp [execOp, ho, resolve, invoke, builtin, hs, hx, hrun, Result.andThen]
  exact h
def begins (l : List K.Rule) (q : Int) : List Int := which (fun r => S.memb (K.headS r) q) 0 l
def headAt (f : Int → List Int) (c : List Int) (k : Nat) : Hd := (c.getD k 0, c.getD (k + 1) 0 - 1, f (c.getD k 0))
def heads (f : Int → List Int) (c : List Int) (n : Nat) : List Hd := (List.range n).map (headAt f c)
theorem heads_succ (f : Int → List Int) (c : List Int) (n : Nat) : heads f c (n + 1) = heads f c n ++ [headAt f c n] := by simp [heads, List.range_succ]
theorem heads_len (f : Int → List Int) (c : List Int) (n : Nat) : (heads f c n).length = n := by simp [heads]
end J

end Go.Proofs.YtlmmjefplbcapaaGreat

/-
  Texts with a cursor: plain lists. A: the runes ahead of the cursor, Z: those behind it.
-/
namespace Go.Proofs.YtlmmjefplbcapaaGreat.G

/-- an edit: its kind, its number, its runes -/
structure Ed where
  kind : Int
  n : Int
  runes : List Int

abbrev St := List Int × List Int

/-- one edit: an error (not 0) or the text behind it -/
def step (e : Ed) (s : St) : Int × St :=
  if e.kind = 1 then
    if e.n < 0 ∨ (s.1.length + s.2.length : Int) < e.n then (3, s) else (0, (s.1 ++ s.2).take e.n.toNat, (s.1 ++ s.2).drop e.n.toNat)
  else if e.kind = 2 then
    if 4000 < (s.1.length + s.2.length + e.runes.length : Int) then (4, s) else (0, s.1 ++ e.runes, s.2)
  else if e.kind = 3 then
    if e.n < 0 ∨ (s.2.length : Int) < e.n then (3, s) else (0, s.1, s.2.drop e.n.toNat)
  else if e.kind = 4 then
    if e.n < 0 ∨ (s.1.length : Int) < e.n then (3, s) else (0, s.1.take (s.1.length - e.n.toNat), s.2)
  else (1, s)

/-- all edits, from number k on: the error and its place, the text -/
def play : Nat → List Ed → St → Int × Nat × St
  | _, [], s => (0, 0, s)
  | k, e :: l, s => if (step e s).1 = 0 then play (k + 1) l (step e s).2 else ((step e s).1, k, s)

theorem step_err (e : Ed) (s : St) : (step e s).1 = 0 ∨ (step e s).1 = 1 ∨ (step e s).1 = 3 ∨ (step e s).1 = 4 := by
  unfold step; repeat' split
  all_goals simp

theorem step_len (e : Ed) (s : St) (h : s.1.length + s.2.length ≤ 4000) (h0 : (step e s).1 = 0) : (step e s).2.1.length + (step e s).2.2.length ≤ 4000 := by
  unfold step at h0 ⊢
  repeat' split
  all_goals first
    | (simp [*] at h0; done)
    | (simp only [List.length_append, List.length_take, List.length_drop] at *; omega)

theorem play_step (k : Nat) (l : List Ed) (s : St) (e : Ed) (h : l[k]? = some e) : play k (l.drop k) s = if (step e s).1 = 0 then play (k + 1) (l.drop (k + 1)) (step e s).2 else ((step e s).1, k, s) := by
  rw [List.drop_eq_getElem_cons (List.getElem?_eq_some_iff.1 h).1, (List.getElem?_eq_some_iff.1 h).2]
  rfl
theorem play_end (k : Nat) (l : List Ed) (s : St) (h : l.length ≤ k) : play k (l.drop k) s = (0, 0, s) := by
  rw [List.drop_eq_nil_of_le h]; rfl

end Go.Proofs.YtlmmjefplbcapaaGreat.G
