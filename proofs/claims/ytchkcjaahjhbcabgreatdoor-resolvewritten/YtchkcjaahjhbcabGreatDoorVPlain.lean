/-
  The small functions of package resolve, and slices.Clone of spans.
-/
import Derived.Test.YtchkcjaahjhbcabGreatDoorVLib
import Derived.Test.YtchkcjaahjhbcabGreatDoorSWrong
import Derived.Maps.OwnSet
import Derived.Test.YtchkcjaahjhbcabGreatDoorRMath
namespace Go.Proofs.YtchkcjaahjhbcabGreatDoor
open Go.RowKit Go.Lib
set_option maxRecDepth 20000
set_option linter.unusedSimpArgs false
set_option linter.unusedVariables false

theorem Tryz.vinfoSp : (Tryz.prog.info? 97).map (fun i => (i.zero, i.size, i.bytes)) = some (some (.agg #[.int .i32 0, .int .i32 0]), 2, 8) := by kernel_rfl
theorem Tryz.vinfoI32 : (Tryz.prog.info? 21).map (fun i => (i.zero, i.size, i.bytes)) = some (some (.int .i32 0), 1, 4) := by kernel_rfl

set_option maxHeartbeats 1000000 in
theorem vclone_any (w : World) (v : Value) (l : List S.Sp) (R : S.Rd w v l) (hl : l.length ≤ 17592186044160) :
    Calls Tryz.prog 39 #[v] w fun e w' => ∃ v', e = .returned v' ∧ w'.ownsRow w.heap.size 97 2 v' l.length (S.cellsOf l) ∧ Below w.heap.size w w' := by
  obtain ⟨ao, cap, rfl, hn, hc⟩ := R
  obtain ⟨i0, hi, hz0, hz1, hz2⟩ := info_parts Tryz.vinfoSp
  have q22 : ∀ (w : World) (a : Option Addr) (n c n' c' : Nat), (binOp .eql 31 (.slice a n c) (.slice none n' c')).run Tryz.prog w = .ok (.bool a.isNone) w := fun w a n c n' c' => Lib.run_eql_slice_nil w _ _ a n c n' c' Tryz.underlying31
  cases ao with
  | none =>
    have h0 : l = [] := by
      cases l with
      | nil => rfl
      | cons z zs => obtain ⟨b, off, h, _⟩ := hc (by simp); simp at h
    subst h0
    have := hn rfl
    subst this
    clear hc
    go_enter Tryz.func39, Tryz.ntmps39
    go_wp2
    go_ret
    exact ⟨_, rfl, World.ownsRow_nil _ _ _ _, Below.refl _ _⟩
  | some ad =>
    have HC : Hid (∀ j u, (S.cellsOf l)[j]? = some u → w.cell? (ad.add j) = some u) := by
      intro j u hj
      obtain ⟨i, x, hx, hor⟩ := S.cellsOf_inv hj
      obtain ⟨b, off, hao, hcell⟩ := hc (by intro h; subst h; simp at hx)
      simp at hao
      subst hao
      have h1 := hcell i x hx
      rw [L.addr_add]
      rcases hor with ⟨rfl, rfl⟩ | ⟨rfl, rfl⟩
      · exact h1.1
      · exact h1.2
    clear hc
    have OW : Hid ((w.alloc (.cells #[] 97)).ownsRow w.heap.size 97 2 (.slice (some ⟨w.heap.size, 0, none⟩) 0 0) 0 []) := World.ownsRow_made w #[] 0 (Nat.le_refl _) (Nat.zero_le _) (by simp)
    go_enter Tryz.func39, Tryz.ntmps39
    go_wp2_with (at_builtin; go_must (refine wpList_append_own _ rfl _ _ 31 rfl w.heap.size 97 i0 (.agg #[.int .i32 0, .int .i32 0]) 2 8 Tryz.underlying31 hi hz0 hz1 hz2 rfl (by decide) _ _ _ rfl OW.out ad l.length cap (S.cellsOf l) rfl (S.cellsOf_length l) (fun j u hj => Lib.cell?_alloc_some _ (HC.out j u hj)) (fun u hu => S.cellsOf_one hu) (by unfold maxLen; omega) (by omega) (by simp) ?_; intro v' w3 hown' hgrow3 hnil3))
    go_ret
    refine ⟨v', rfl, by simpa using hown', ?_⟩
    exact ((Below.refl _ w).alloc (Nat.le_refl _) _).grown hgrow3 (by simp) (fun k hk => (OW.out.lt k hk).1)


/-- the pass that goes the other way -/
def V.opp (s : ByteArray) : ByteArray := if (s.toList == [117, 112, 112, 101, 114]) = true then ⟨#[108, 111, 119, 101, 114]⟩ else if (s.toList == [108, 111, 119, 101, 114]) = true then ⟨#[117, 112, 112, 101, 114]⟩ else ⟨#[110, 117, 108, 108]⟩
def V.against (d : Int) : Int := if d = 1 then 2 else if d = 2 then 1 else d

set_option maxHeartbeats 400000 in
theorem opposite_any (w : World) (s : ByteArray) (hs : s.size ≤ 140737488355328) : Calls Tryz.prog 46 #[.string s] w fun e w' => e = .returned (.string (V.opp s)) ∧ w' = w := by
  cases h1 : (s.toList == [117, 112, 112, 101, 114]) with
  | true =>
    go_enter Tryz.func46, Tryz.ntmps46
    go_wp2
    go_ret
    exact ⟨by simp only [V.opp, h1, if_true]; rfl, rfl⟩
  | false =>
    cases h2 : (s.toList == [108, 111, 119, 101, 114]) with
    | true =>
      go_enter Tryz.func46, Tryz.ntmps46
      go_wp2
      go_ret
      exact ⟨by simp only [V.opp, h1, h2, if_true, Bool.false_eq_true, if_false]; rfl, rfl⟩
    | false =>
      go_enter Tryz.func46, Tryz.ntmps46
      go_wp2
      go_ret
      exact ⟨by simp only [V.opp, h1, h2, Bool.false_eq_true, if_false]; rfl, rfl⟩

set_option maxHeartbeats 400000 in
theorem against_any (w : World) (d : Int) : Calls Tryz.prog 47 #[.int .i64 d] w fun e w' => e = .returned (.int .i64 (V.against d)) ∧ w' = w := by
  by_cases h1 : d = 1
  · subst h1
    go_enter Tryz.func47, Tryz.ntmps47
    go_wp2
    go_ret
    exact ⟨by simp [V.against], rfl⟩
  · by_cases h2 : d = 2
    · subst h2
      go_enter Tryz.func47, Tryz.ntmps47
      go_wp2
      go_ret
      exact ⟨by simp [V.against], rfl⟩
    · go_enter Tryz.func47, Tryz.ntmps47
      go_wp2
      go_ret
      exact ⟨by simp [V.against, h1, h2], rfl⟩

set_option maxHeartbeats 400000 in
theorem itrune_any (w : World) (a b c d : Value) : Calls Tryz.prog 67 #[.agg #[a, b, c, d]] w fun e w' => e = .returned b ∧ w' = w.alloc (.cells #[a, b, c, d] 42) := by
  go_enter Tryz.func67, Tryz.ntmps67
  go_wp2
  go_ret
  exact ⟨rfl, rfl⟩

/-- an append to a row of one's own -/
theorem V.push {w W1 w3 : World} {e : TypeId} {c : Nat} {v v' : Value} {n : Nat} {xs ys : List Value} {o : Obj} (hbw : Below w.heap.size w W1) (hown : W1.ownsRow w.heap.size e c v n xs)
    (hown' : w3.ownsRow w.heap.size e c v' (n + 1) (xs ++ ys)) (hgrow : (W1.alloc o).grownBy w3 v.ownBlock) :
    Hid (w3.ownsRow w.heap.size e c v' (n + 1) (xs ++ ys) ∧ Below w.heap.size w w3) :=
  ⟨hown', Below.grown (hbw.alloc hbw.size _) hgrow (by have := hbw.size; simp; omega) (fun j hj => (hown.lt _ hj).1)⟩

set_option maxHeartbeats 2000000 in
theorem eachr_any (w : World) (v : Value) (l : List R.Item) (RR : R.Its w v l) (hl : l.length ≤ 1000) :
    Calls Tryz.prog 66 #[v, .func (.func 67) #[] #[]] w fun e w' => ∃ v', e = .returned v' ∧ w'.ownsRow w.heap.size 21 1 v' l.length (l.map fun x => Value.int .i32 x.rune) ∧ Below w.heap.size w w' := by
  have HR : Hid (R.Its w v l) := RR
  obtain ⟨ao, ca, rfl⟩ := RR.len
  clear RR
  obtain ⟨i0, hi, hz0, hz1, hz2⟩ := info_parts Tryz.vinfoI32
  go_enter Tryz.func66, Tryz.ntmps66
  go_wp2
  go_loopw [5, 10] (fun v i wr => ∃ k : Nat, k ≤ l.length ∧ i = .int .i64 k ∧ Hid (wr.ownsRow w.heap.size 21 1 v k ((l.take k).map fun x => Value.int .i32 x.rune) ∧ Below w.heap.size w wr)) (fun _ i _ => l.length - (RowKit.intOf i).toNat)
  case atStart => exact ⟨0, Nat.zero_le _, rfl, World.ownsRow_nil _ _ _ _, Below.refl _ w⟩
  case round =>
    obtain ⟨k, hk, rfl, HB⟩ := hrel
    by_cases hlt : k < l.length
    · obtain ⟨x, hx⟩ : ∃ x, l[k]? = some x := ⟨l[k], by simp [hlt]⟩
      obtain ⟨ao', ca', e', hcs⟩ := HR.out.below HB.out.2
      cases e'
      obtain ⟨b, off, rfl, hcell⟩ := hcs (by intro h; subst h; simp at hlt)
      obtain ⟨c0, c1, c3, ⟨so, sc, c2, r2⟩, hf, _⟩ := hcell k x hx
      clear hcell hcs r2 hf
      have HX : Hid (l[k]? = some x) := hx
      clear hx
      obtain ⟨xk, xr, xs, xn⟩ := x
      simp only at c0 c1 c2 c3
      have hb1 : b < wr.heap.size := L.block_lt c0
      go_wp2_with fail
      refine (itrune_any _ _ _ _ _).mono ?_
      rintro e w5 ⟨rfl, hw5⟩
      have BW : Below wr.heap.size wr w5 := by rw [hw5]; exact ((Below.refl _ wr).alloc (Nat.le_refl _) _).alloc (by simp) _
      have HO : Hid (w5.ownsRow w.heap.size 21 1 u5 k ((l.take k).map fun x => Value.int .i32 x.rune)) := by rw [hw5]; exact (HB.out.1.alloc _).alloc _
      have HBW : Hid (Below w.heap.size w w5) := HB.out.2.trans (BW.mono HB.out.2.size)
      have hsz5 : w.heap.size ≤ w5.heap.size := HBW.out.size
      clear hw5 BW c0 c1 c2 c3 hb1
      go_wp2_with (at_builtin; go_must (refine wpList_append_own _ rfl _ _ 52 rfl w.heap.size 21 i0 (.int .i32 0) 1 4 Tryz.underlying52 hi hz0 hz1 hz2 rfl (by decide) _ _ _ rfl (HO.out.alloc _) ⟨w5.heap.size, 0, none⟩ 1 1 [.int .i32 xr] rfl rfl (cell_one_new _ _ _) (fun x hx => by simp at hx; subst hx; rfl) (by unfold maxLen; omega) (by omega) (by simp; omega) ?_; intro v' w3 hown' hgrow3 hnil3; have HX3 := V.push HBW.out HO.out hown' hgrow3; clear hown' hgrow3 hnil3))
      go_roundw
      case rel => exact ⟨k + 1, by omega, by go_num, by rw [List.take_add_one, HX.out]; simpa using HX3.out.1, HX3.out.2⟩
      case measure => simp [RowKit.intOf]; omega
    · have hkl : k = l.length := by omega
      subst hkl
      go_wp2
      go_ret
      exact ⟨_, rfl, by simpa using HB.out.1, HB.out.2⟩

end Go.Proofs.YtchkcjaahjhbcabGreatDoor

/-
  A map from names to slices, in memory: what is at each name, as raw values.
-/
namespace Go.Proofs.YtchkcjaahjhbcabGreatDoor
open Go.RowKit Go.Maps Go.WideMaps
set_option linter.unusedVariables false

/-- an element is the value that it is -/
def V.raw (v : Value) : Option (DataW Value × List MemPlace) := some (.held v, [])
theorem V.keyed : Keyed Tryz.prog 9 := string_keyed Tryz.underlying9
theorem V.zeroSp (w : World) : (zeroValue 31).run Tryz.prog w = .ok (.slice none 0 0) w := by kernel_rfl

/-- BLOCK B IS A MAP OF AT MOST n NAMES, AND f SAYS WHAT IS AT EACH. -/
def V.MapIs (w : World) (B n : Nat) (f : ByteArray → Option Value) : Prop :=
  ∃ D : DataW Value, w.ownsMap Tryz.prog 9 V.raw B n D ∧ IsMap D ∧
    ∀ s : ByteArray, Maps.has D (.string s.data.toList) = (f s).isSome ∧ D.atKey (.string s.data.toList) (.held (.slice none 0 0)) = .held ((f s).getD (.slice none 0 0))

theorem V.MapIs.made (w : World) : V.MapIs (w.alloc (.map #[] 0)) w.heap.size 0 fun _ => none :=
  ⟨.map [], World.ownsMap_made w _ _ _, ⟨[], rfl⟩, fun s => ⟨rfl, rfl⟩⟩
theorem V.MapIs.lt {w : World} {B n : Nat} {f : ByteArray → Option Value} (h : V.MapIs w B n f) : B < w.heap.size := by
  obtain ⟨D, h1, _⟩ := h; exact h1.lt
theorem V.MapIs.block {w w' : World} {B n : Nat} {f : ByteArray → Option Value} (h : V.MapIs w B n f) (e : w'.heap[B]? = w.heap[B]?) : V.MapIs w' B n f := by
  obtain ⟨D, ⟨es, clock, hb, F, hs, hD⟩, h2⟩ := h
  exact ⟨D, ⟨es, clock, e.trans hb, F, hs, hD⟩, h2⟩
theorem V.MapIs.below {w w' : World} {B n X : Nat} {f : ByteArray → Option Value} (h : V.MapIs w B n f) (hb : Below X w w') (hX : B < X) : V.MapIs w' B n f := h.block (hb.block B hX)

theorem V.MapIs.look {w : World} {B n : Nat} {f : ByteArray → Option Value} (h : V.MapIs w B n f) (s : ByteArray) (hs : s.size ≤ 140737488355328) :
    (Instr.lookup 76 (.map (some B)) (.string s) false).run Tryz.prog w = .ok ((f s).getD (.slice none 0 0)) w := by
  obtain ⟨D, h1, h2, h3⟩ := h
  obtain ⟨v, ps, hrun, hv⟩ := h1.lookup (t := 76) (e := 31) V.keyed Tryz.underlying76 (V.zeroSp w) (zd := .held (.slice none 0 0)) (zp := []) rfl (key := .string s) (keyOf_string_mk Tryz.underlying9 (by unfold maxLen; omega))
  rw [(h3 s).2] at hv
  simp only [V.raw, Option.some.injEq, Prod.mk.injEq, DataW.held.injEq] at hv
  rw [hrun, hv.1]
theorem V.MapIs.look_ok {w : World} {B n : Nat} {f : ByteArray → Option Value} (h : V.MapIs w B n f) (s : ByteArray) (hs : s.size ≤ 140737488355328) :
    (Instr.lookup 76 (.map (some B)) (.string s) true).run Tryz.prog w = .ok (.tuple #[(f s).getD (.slice none 0 0), .bool (f s).isSome]) w := by
  obtain ⟨D, h1, h2, h3⟩ := h
  obtain ⟨v, ps, hrun, hv⟩ := h1.look_ok (t := 76) (e := 31) V.keyed Tryz.underlying76 (V.zeroSp w) (zd := .held (.slice none 0 0)) (zp := []) rfl (key := .string s) (keyOf_string_mk Tryz.underlying9 (by unfold maxLen; omega))
  rw [(h3 s).2] at hv
  simp only [V.raw, Option.some.injEq, Prod.mk.injEq, DataW.held.injEq] at hv
  rw [hrun, hv.1, (h3 s).1]
theorem V.MapIs.put {w : World} {B n : Nat} {f : ByteArray → Option Value} (h : V.MapIs w B n f) (s : ByteArray) (hs : s.size ≤ 140737488355328) (hn : n ≤ 140737488355328) (v : Value) :
    ∃ w', (Instr.mapUpdate 76 (.map (some B)) (.string s) v).run Tryz.prog w = .ok () w' ∧ V.MapIs w' B (n + 1) (fun t => if t = s then some v else f t) ∧ w.grownBy w' (some B) := by
  obtain ⟨D, h1, h2, h3⟩ := h
  obtain ⟨w', hrun, r1, r2⟩ := h1.update (t := 76) (e := 31) V.keyed Tryz.underlying76 (by unfold maxLen; omega) (key := .string s) (keyOf_string_mk Tryz.underlying9 (by unfold maxLen; omega)) (val := v) (d := .held v) (ps := []) rfl
  refine ⟨w', hrun, ⟨_, r1, h2.put _ _, fun t => ?_⟩, r2⟩
  by_cases ht : t = s
  · subst ht
    rw [has_put_same h2 (by simp [WideAt.IsKeyLit]), atKey_put_same h2 (by simp [WideAt.IsKeyLit])]
    simp
  · have hne : Lit.string t.data.toList ≠ Lit.string s.data.toList := by
      intro e
      apply ht
      have e1 : t.data.toList = s.data.toList := by simpa using e
      exact ByteArray.ext (Array.toList_inj.1 e1)
    rw [has_put_other hne, atKey_put_other hne, (h3 t).1, (h3 t).2]
    simp [ht]

end Go.Proofs.YtchkcjaahjhbcabGreatDoor

/-
  The set that an item stands for: what resolve.lookup's function answers; what each makes of a list of items.
-/
namespace Go.Proofs.YtchkcjaahjhbcabGreatDoor
open Go.RowKit Go.Lib
set_option maxRecDepth 20000
set_option linter.unusedSimpArgs false
set_option linter.unusedVariables false

theorem V.lower {w : World} {B B' : Nat} {e : TypeId} {c : Nat} {v : Value} {n : Nat} {xs : List Value} (h : w.ownsRow B e c v n xs) (hB : B' ≤ B) : w.ownsRow B' e c v n xs := by
  obtain ⟨h1, h2⟩ := h
  refine ⟨h1, ?_⟩
  rcases h2 with h2 | ⟨g, cap, cur, k1, k2, k3⟩
  · exact Or.inl h2
  · exact Or.inr ⟨g, cap, cur, k1, Nat.le_trans hB k2, k3⟩
/-- the set that an item stands for -/
def V.setOf (g : ByteArray → List S.Sp) (x : R.Item) : List S.Sp := if x.kind = 2 then x.set else if x.kind = 3 then g x.name else [(x.rune, x.rune)]
/-- names and their sets, in memory: bm: the box that holds the map -/
def V.Vars (w : World) (bm : Nat) (g : ByteArray → List S.Sp) : Prop :=
  ∃ B n f, w.cell? ⟨bm, 0, none⟩ = some (.map (some B)) ∧ V.MapIs w B n f ∧ ∀ s : ByteArray, S.Rd w ((f s).getD (.slice none 0 0)) (g s) ∧ (g s).length ≤ 17592186044160
theorem V.Vars.below {w w' : World} {bm : Nat} {g : ByteArray → List S.Sp} (h : V.Vars w bm g) (hb : Below w.heap.size w w') : V.Vars w' bm g := by
  obtain ⟨B, n, f, h1, h2, h3⟩ := h
  refine ⟨B, n, f, ?_, h2.below hb h2.lt, fun s => ⟨(h3 s).1.below hb (Nat.le_refl _), (h3 s).2⟩⟩
  rw [hb.cell (p := ⟨bm, 0, none⟩) (L.block_lt h1)]; exact h1

set_option maxHeartbeats 2000000 in
theorem lookf_any (w : World) (x : R.Item) (so : Option Addr) (sc bm : Nat) (g : ByteArray → List S.Sp) (HV : V.Vars w bm g) (RS : S.Rd w (.slice so x.set.length sc) x.set) (hl : x.kind = 2 → x.set.length ≤ 17592186044160) (hn : x.name.size ≤ 140737488355328) :
    Calls Tryz.prog 64 #[.agg #[.int .i64 x.kind, .int .i32 x.rune, .slice so x.set.length sc, .string x.name], .pointer (some ⟨bm, 0, none⟩)] w
      fun e w' => ∃ v', e = .returned v' ∧ w'.ownsRow w.heap.size 97 2 v' (V.setOf g x).length (S.cellsOf (V.setOf g x)) ∧ Below w.heap.size w w' := by
  obtain ⟨B, n, f, hm, hM, hg⟩ := HV
  obtain ⟨xk, xr, xs, xn⟩ := x
  simp only at RS hl hn ⊢
  have bA : Below w.heap.size w (w.alloc (.cells #[.int .i64 xk, .int .i32 xr, .slice so xs.length sc, .string xn] 42)) := (Below.refl _ w).alloc (Nat.le_refl _) _
  have hlook := (hM.below bA hM.lt).look xn hn
  have hbm : bm < w.heap.size := L.block_lt hm
  have HC : Hid (∀ W : World, Below w.heap.size w W → ∀ v l, S.Rd w v l → l.length ≤ 17592186044160 → Calls Tryz.prog 39 #[v] W fun e w' => ∃ v', e = .returned v' ∧ w'.ownsRow w.heap.size 97 2 v' l.length (S.cellsOf l) ∧ Below w.heap.size w w') := fun W hW v l hv hl => by
    refine (vclone_any W v l (hv.below hW (Nat.le_refl _)) hl).mono ?_
    rintro e w' ⟨v', rfl, h1, h2⟩
    exact ⟨v', rfl, V.lower h1 hW.size, hW.trans (h2.mono hW.size)⟩
  have HG : Hid (S.Rd w ((f xn).getD (.slice none 0 0)) (g xn) ∧ (g xn).length ≤ 17592186044160) := hg xn
  have HRS : Hid (S.Rd w (.slice so xs.length sc) xs ∧ (xk = 2 → xs.length ≤ 17592186044160)) := ⟨RS, hl⟩
  have HbA : Hid _ := bA
  clear hg hM RS bA hl
  generalize (f xn).getD (.slice none 0 0) = gv at hlook HG
  by_cases h2 : xk = 2
  · subst h2
    clear hlook
    go_enter Tryz.func64, Tryz.ntmps64
    go_wp2_with fail
    refine (HC.out _ HbA.out _ _ HRS.out.1 (HRS.out.2 trivial)).mono ?_
    rintro e w1 ⟨v', rfl, o1, b1⟩
    have HO : Hid _ := And.intro o1 b1
    clear o1 b1
    go_wp2
    go_ret
    exact ⟨v', rfl, HO.out.1, HO.out.2⟩
  · by_cases h3 : xk = 3
    · subst h3
      go_enter Tryz.func64, Tryz.ntmps64
      go_wp2_with fail
      refine (HC.out _ HbA.out _ _ HG.out.1 HG.out.2).mono ?_
      rintro e w1 ⟨v', rfl, o1, b1⟩
      have HO : Hid _ := And.intro o1 b1
      clear o1 b1
      go_wp2
      go_ret
      exact ⟨v', rfl, HO.out.1, HO.out.2⟩
    · clear hlook
      have e1 : V.setOf g ⟨xk, xr, xs, xn⟩ = [(xr, xr)] := by simp [V.setOf, h2, h3]
      rw [e1]
      clear e1
      go_enter Tryz.func64, Tryz.ntmps64
      go_wp2
      go_ret
      refine ⟨_, rfl, ?_, ?_⟩
      · refine ⟨rfl, Or.inr ⟨w.heap.size + 1, 1, #[.int .i32 xr, .int .i32 xr], rfl, by omega, ?_, Nat.le_refl _, by unfold maxLen; omega, rfl, rfl⟩⟩
        have h := heap_alloc_new (w.alloc (.cells #[.int .i64 xk, .int .i32 xr, .slice so xs.length sc, .string xn] 42)) (.cells #[.int .i32 xr, .int .i32 xr] 97)
        simpa using h
      · exact ((Below.refl _ w).alloc (Nat.le_refl _) _).alloc (by simp) _

end Go.Proofs.YtchkcjaahjhbcabGreatDoor

/-
  Files become scripts, in plain lists.
-/
namespace Go.Proofs.YtchkcjaahjhbcabGreatDoor.V

abbrev Known := ByteArray → Option (List S.Sp)
def unkP (kn : Known) (x : R.Item) : Bool := decide (x.kind = 3) && !(kn x.name).isSome
def unkSP (kn : Known) (s : R.Side) : Bool := s.before.any (unkP kn) || s.source.any (unkP kn) || s.after.any (unkP kn)
/-- what is wrong with a part beside those ahead of it -/
def stepE (kn : Known) (flt : Bool) (p : R.Part) : Int :=
  if p.kind = 1 then (if (kn p.name).isSome = true then 7 else 0)
  else if p.kind = 3 then (if flt = true then 5 else 0)
  else if p.kind = 2 then (if (unkSP kn p.left || unkSP kn p.right) = true then 7 else 0) else 0
def stepK (kn : Known) (p : R.Part) : Known := if p.kind = 1 then fun t => if t = p.name then some p.set else kn t else kn
def stepF (flt : Bool) (p : R.Part) : Bool := if p.kind = 3 then true else flt
def ordF : Nat → Known → Bool → List R.Part → (Int × Nat) × Known
  | _, kn, _, [] => ((0, 0), kn)
  | k, kn, flt, p :: l => if stepE kn flt p = 0 then ordF (k + 1) (stepK kn p) (stepF flt p) l else ((stepE kn flt p, k), fun _ => none)
/-- what is wrong, and all variables -/
def varsF (l : List R.Part) : (Int × Nat) × Known := if (R.wrong l).1 = 0 then ordF 0 (fun _ => none) false l else (R.wrong l, fun _ => none)
theorem ordF_drop {l : List R.Part} {k : Nat} {p : R.Part} {kn : Known} {flt : Bool} (h : l[k]? = some p) : ordF k kn flt (l.drop k) = if stepE kn flt p = 0 then ordF (k + 1) (stepK kn p) (stepF flt p) (l.drop (k + 1)) else ((stepE kn flt p, k), fun _ => none) := by
  have hlt := (List.getElem?_eq_some_iff.1 h).1
  rw [List.drop_eq_getElem_cons hlt]
  have : l[k] = p := by rw [List.getElem?_eq_getElem hlt] at h; exact Option.some.inj h
  rw [this]; rfl

/-- the set of a name -/
def gOf (kn : Known) (s : ByteArray) : List S.Sp := (kn s).getD []
def ruleOf (g : ByteArray → List S.Sp) (a b : R.Side) : K.Rule :=
  ⟨a.start, a.fin, a.before.map (setOf g), a.source.map (setOf g), a.after.map (setOf g), b.source.map (·.rune), if b.cursor < 0 then (b.source.length : Int) else b.cursor⟩
def putP (ps : List Pass) (r : K.Rule) : List Pass :=
  match ps.getLast? with
  | some p => if p.name.size = 0 then ps.dropLast ++ [⟨p.name, p.rules ++ [r]⟩] else ps ++ [⟨⟨#[]⟩, [r]⟩]
  | none => [⟨⟨#[]⟩, [r]⟩]
def scrStep (g : ByteArray → List S.Sp) (s : Script) (p : R.Part) : Script :=
  if p.kind = 3 then ⟨true, p.set, s.passes⟩
  else if p.kind = 4 then ⟨s.has, s.only, s.passes ++ [⟨p.name, []⟩]⟩
  else if p.kind = 2 then (if p.dir = 2 then s else ⟨s.has, s.only, putP s.passes (ruleOf g p.left p.right)⟩)
  else s
def scr (g : ByteArray → List S.Sp) (l : List R.Part) : Script := l.foldl (scrStep g) ⟨false, [], []⟩
/-- a part, if back were forth -/
def turn (p : R.Part) : R.Part :=
  if p.kind = 4 then { p with name := opp p.name }
  else if p.kind = 2 then { p with left := p.right, dir := against p.dir, right := p.left } else p
def forthF (l : List R.Part) : Script × Int × Nat := if (varsF l).1.1 = 0 then (scr (gOf (varsF l).2) l, 0, 0) else (⟨false, [], []⟩, (varsF l).1)
def backF (l : List R.Part) : Script × Int × Nat :=
  if (varsF l).1.1 = 0 then (⟨(scr (gOf (varsF l).2) (l.map turn)).has, (scr (gOf (varsF l).2) (l.map turn)).only, (scr (gOf (varsF l).2) (l.map turn)).passes.reverse⟩, 0, 0) else (⟨false, [], []⟩, (varsF l).1)

end Go.Proofs.YtchkcjaahjhbcabGreatDoor.V
