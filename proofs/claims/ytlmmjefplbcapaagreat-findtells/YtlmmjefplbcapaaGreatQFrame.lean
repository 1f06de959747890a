/-
  Parts, sides and items in memory: what reads as a list of them.
-/
import Derived.Test.YtlmmjefplbcapaaGreatRMath
import Derived.Test.YtlmmjefplbcapaaGreatSFrame
import Derived.Test.YtlmmjefplbcapaaGreatRuFrame
import Derived.Test.YtlmmjefplbcapaaGreatUni
namespace Go.Proofs.YtlmmjefplbcapaaGreat.R
open Go.RowKit

def I64 (n : Int) : Prop := -9223372036854775808 ≤ n ∧ n ≤ 9223372036854775807

/-- A SLICE VALUE READS AS A LIST OF ITEMS. -/
def Its (w : World) (v : Value) (l : List Item) : Prop :=
  ∃ ao cap, v = .slice ao l.length cap ∧ (l ≠ [] → ∃ b off, ao = some ⟨b, off, none⟩ ∧ ∀ j x, l[j]? = some x →
    w.cell? ⟨b, off + j * 4, none⟩ = some (.int .i64 x.kind) ∧ w.cell? ⟨b, off + j * 4 + 1, none⟩ = some (.int .i32 x.rune) ∧ w.cell? ⟨b, off + j * 4 + 3, none⟩ = some (.string x.name) ∧
    (∃ so sc, w.cell? ⟨b, off + j * 4 + 2, none⟩ = some (.slice so x.set.length sc) ∧ S.Rd w (.slice so x.set.length sc) x.set) ∧ S.Fit x.set ∧ x.name.size ≤ 140737488355328)

def SdIs (w : World) (v : Value) (s : Side) : Prop :=
  ∃ bo bc so sc ao ac, v = .agg #[.bool s.start, .bool s.fin, .slice bo s.before.length bc, .slice so s.source.length sc, .slice ao s.after.length ac, .int .i64 s.cursor] ∧
    Its w (.slice bo s.before.length bc) s.before ∧ Its w (.slice so s.source.length sc) s.source ∧ Its w (.slice ao s.after.length ac) s.after ∧ I64 s.cursor

/-- a part: sixteen cells -/
def PtIs (w : World) (v : Value) (p : Part) : Prop :=
  ∃ so sc v4 v5 v6 v7 v8 v9 v10 v11 v12 v13 v14 v15, v = .agg #[.int .i64 p.kind, .string p.name, .slice so p.set.length sc, .int .i64 p.dir, v4, v5, v6, v7, v8, v9, v10, v11, v12, v13, v14, v15] ∧
    S.Rd w (.slice so p.set.length sc) p.set ∧ S.Fit p.set ∧ SdIs w (.agg #[v4, v5, v6, v7, v8, v9]) p.left ∧ SdIs w (.agg #[v10, v11, v12, v13, v14, v15]) p.right ∧ p.name.size ≤ 140737488355328 ∧ I64 p.dir

/-- A SLICE VALUE READS AS A LIST OF PARTS: sixteen cells each. -/
def Pts (w : World) (v : Value) (l : List Part) : Prop :=
  ∃ ao cap, v = .slice ao l.length cap ∧ (l ≠ [] → ∃ b off, ao = some ⟨b, off, none⟩ ∧ ∀ j p, l[j]? = some p →
    ∃ so sc lbo lbc lso lsc lao lac rbo rbc rso rsc rao rac,
      w.cell? ⟨b, off + j * 16, none⟩ = some (.int .i64 p.kind) ∧
      w.cell? ⟨b, off + j * 16 + 1, none⟩ = some (.string p.name) ∧
      w.cell? ⟨b, off + j * 16 + 2, none⟩ = some (.slice so p.set.length sc) ∧
      w.cell? ⟨b, off + j * 16 + 3, none⟩ = some (.int .i64 p.dir) ∧
      w.cell? ⟨b, off + j * 16 + 4, none⟩ = some (.bool p.left.start) ∧
      w.cell? ⟨b, off + j * 16 + 5, none⟩ = some (.bool p.left.fin) ∧
      w.cell? ⟨b, off + j * 16 + 6, none⟩ = some (.slice lbo p.left.before.length lbc) ∧
      w.cell? ⟨b, off + j * 16 + 7, none⟩ = some (.slice lso p.left.source.length lsc) ∧
      w.cell? ⟨b, off + j * 16 + 8, none⟩ = some (.slice lao p.left.after.length lac) ∧
      w.cell? ⟨b, off + j * 16 + 9, none⟩ = some (.int .i64 p.left.cursor) ∧
      w.cell? ⟨b, off + j * 16 + 10, none⟩ = some (.bool p.right.start) ∧
      w.cell? ⟨b, off + j * 16 + 11, none⟩ = some (.bool p.right.fin) ∧
      w.cell? ⟨b, off + j * 16 + 12, none⟩ = some (.slice rbo p.right.before.length rbc) ∧
      w.cell? ⟨b, off + j * 16 + 13, none⟩ = some (.slice rso p.right.source.length rsc) ∧
      w.cell? ⟨b, off + j * 16 + 14, none⟩ = some (.slice rao p.right.after.length rac) ∧
      w.cell? ⟨b, off + j * 16 + 15, none⟩ = some (.int .i64 p.right.cursor) ∧
      PtIs w (.agg #[.int .i64 p.kind, .string p.name, .slice so p.set.length sc, .int .i64 p.dir, .bool p.left.start, .bool p.left.fin, .slice lbo p.left.before.length lbc, .slice lso p.left.source.length lsc, .slice lao p.left.after.length lac, .int .i64 p.left.cursor, .bool p.right.start, .bool p.right.fin, .slice rbo p.right.before.length rbc, .slice rso p.right.source.length rsc, .slice rao p.right.after.length rac, .int .i64 p.right.cursor]) p)

theorem Its.nil (w : World) : Its w (.slice none 0 0) [] := ⟨none, 0, rfl, fun h => absurd rfl h⟩
theorem Its.len {w : World} {v : Value} {l : List Item} (h : Its w v l) : ∃ ao cap, v = .slice ao l.length cap := by
  obtain ⟨ao, cap, rfl, _⟩ := h; exact ⟨ao, cap, rfl⟩
theorem Pts.len {w : World} {v : Value} {l : List Part} (h : Pts w v l) : ∃ ao cap, v = .slice ao l.length cap := by
  obtain ⟨ao, cap, rfl, _⟩ := h; exact ⟨ao, cap, rfl⟩

/-- what is laid stays -/
def Keeps (w w' : World) : Prop := ∀ b o u, w.cell? ⟨b, o, none⟩ = some u → w'.cell? ⟨b, o, none⟩ = some u

theorem Keeps.of_below {w w' : World} {B : Nat} (hb : Below B w w') (hB : w.heap.size ≤ B) : Keeps w w' := fun b o u hu => by
  have := L.block_lt hu
  rw [hb.cell (p := ⟨b, o, none⟩) (by show b < B; omega)]; exact hu
theorem Keeps.trans {w w1 w2 : World} (h : Keeps w w1) (h' : Keeps w1 w2) : Keeps w w2 := fun b o u hu => h' b o u (h b o u hu)

theorem rd_keeps {w w' : World} {v : Value} {l : List S.Sp} (h : S.Rd w v l) (k : Keeps w w') : S.Rd w' v l := h.cells fun b o u hu _ => k b o u hu
theorem Its.keeps {w w' : World} {v : Value} {l : List Item} (h : Its w v l) (k : Keeps w w') : Its w' v l := by
  obtain ⟨ao, cap, rfl, h⟩ := h
  refine ⟨ao, cap, rfl, fun hz => ?_⟩
  obtain ⟨b, off, rfl, hc⟩ := h hz
  refine ⟨b, off, rfl, fun j x hj => ?_⟩
  obtain ⟨h1, h2, h3, ⟨so, sc, h4, h5⟩, h6⟩ := hc j x hj
  exact ⟨k _ _ _ h1, k _ _ _ h2, k _ _ _ h3, ⟨so, sc, k _ _ _ h4, rd_keeps h5 k⟩, h6⟩
theorem SdIs.keeps {w w' : World} {v : Value} {s : Side} (h : SdIs w v s) (k : Keeps w w') : SdIs w' v s := by
  obtain ⟨bo, bc, so, sc, ao, ac, rfl, h1, h2, h3, h4⟩ := h
  exact ⟨bo, bc, so, sc, ao, ac, rfl, h1.keeps k, h2.keeps k, h3.keeps k, h4⟩
theorem PtIs.keeps {w w' : World} {v : Value} {p : Part} (h : PtIs w v p) (k : Keeps w w') : PtIs w' v p := by
  obtain ⟨so, sc, v4, v5, v6, v7, v8, v9, v10, v11, v12, v13, v14, v15, rfl, h1, h2, h3, h4, h5⟩ := h
  exact ⟨so, sc, v4, v5, v6, v7, v8, v9, v10, v11, v12, v13, v14, v15, rfl, rd_keeps h1 k, h2, h3.keeps k, h4.keeps k, h5⟩
theorem Pts.keeps {w w' : World} {v : Value} {l : List Part} (h : Pts w v l) (k : Keeps w w') : Pts w' v l := by
  obtain ⟨ao, cap, rfl, h⟩ := h
  refine ⟨ao, cap, rfl, fun hz => ?_⟩
  obtain ⟨b, off, rfl, hc⟩ := h hz
  refine ⟨b, off, rfl, fun j p hj => ?_⟩
  obtain ⟨so, sc, lbo, lbc, lso, lsc, lao, lac, rbo, rbc, rso, rsc, rao, rac, c0, c1, c2, c3, c4, c5, c6, c7, c8, c9, c10, c11, c12, c13, c14, c15, hp⟩ := hc j p hj
  exact ⟨so, sc, lbo, lbc, lso, lsc, lao, lac, rbo, rbc, rso, rsc, rao, rac, k _ _ _ c0, k _ _ _ c1, k _ _ _ c2, k _ _ _ c3, k _ _ _ c4, k _ _ _ c5, k _ _ _ c6, k _ _ _ c7, k _ _ _ c8, k _ _ _ c9, k _ _ _ c10, k _ _ _ c11, k _ _ _ c12, k _ _ _ c13, k _ _ _ c14, k _ _ _ c15, hp.keeps k⟩
theorem Its.below {w w' : World} {v : Value} {l : List Item} (h : Its w v l) (hb : Below w.heap.size w w') : Its w' v l := h.keeps (Keeps.of_below hb (Nat.le_refl _))
theorem SdIs.below {w w' : World} {v : Value} {s : Side} (h : SdIs w v s) (hb : Below w.heap.size w w') : SdIs w' v s := h.keeps (Keeps.of_below hb (Nat.le_refl _))
theorem PtIs.below {w w' : World} {v : Value} {p : Part} (h : PtIs w v p) (hb : Below w.heap.size w w') : PtIs w' v p := h.keeps (Keeps.of_below hb (Nat.le_refl _))
theorem Pts.below {w w' : World} {v : Value} {l : List Part} (h : Pts w v l) (hb : Below w.heap.size w w') : Pts w' v l := h.keeps (Keeps.of_below hb (Nat.le_refl _))
theorem Keeps.alloc (w : World) (o : Obj) : Keeps w (w.alloc o) := Keeps.of_below ((Below.refl _ w).alloc (Nat.le_refl _) o) (Nat.le_refl _)

/-- a part's cells, by name -/
theorem PtIs.open {w : World} {v : Value} {p : Part} (h : PtIs w v p) : ∃ so sc lbo lbc lso lsc lao lac rbo rbc rso rsc rao rac,
    v = .agg #[.int .i64 p.kind, .string p.name, .slice so p.set.length sc, .int .i64 p.dir, .bool p.left.start, .bool p.left.fin, .slice lbo p.left.before.length lbc, .slice lso p.left.source.length lsc, .slice lao p.left.after.length lac, .int .i64 p.left.cursor,
      .bool p.right.start, .bool p.right.fin, .slice rbo p.right.before.length rbc, .slice rso p.right.source.length rsc, .slice rao p.right.after.length rac, .int .i64 p.right.cursor] ∧
    S.Rd w (.slice so p.set.length sc) p.set ∧ S.Fit p.set ∧
    SdIs w (.agg #[.bool p.left.start, .bool p.left.fin, .slice lbo p.left.before.length lbc, .slice lso p.left.source.length lsc, .slice lao p.left.after.length lac, .int .i64 p.left.cursor]) p.left ∧
    SdIs w (.agg #[.bool p.right.start, .bool p.right.fin, .slice rbo p.right.before.length rbc, .slice rso p.right.source.length rsc, .slice rao p.right.after.length rac, .int .i64 p.right.cursor]) p.right ∧
    p.name.size ≤ 140737488355328 ∧ I64 p.dir := by
  obtain ⟨so, sc, v4, v5, v6, v7, v8, v9, v10, v11, v12, v13, v14, v15, rfl, h1, h2, h3, h4, h5, h6⟩ := h
  have k3 := h3
  have k4 := h4
  obtain ⟨lbo, lbc, lso, lsc, lao, lac, he, _⟩ := k3
  obtain ⟨rbo, rbc, rso, rsc, rao, rac, hf, _⟩ := k4
  simp only [Value.agg.injEq, Array.mk.injEq, List.cons.injEq, and_true] at he hf
  obtain ⟨rfl, rfl, rfl, rfl, rfl, rfl⟩ := he
  obtain ⟨rfl, rfl, rfl, rfl, rfl, rfl⟩ := hf
  exact ⟨so, sc, lbo, lbc, lso, lsc, lao, lac, rbo, rbc, rso, rsc, rao, rac, rfl, h1, h2, h3, h4, h5, h6⟩

end Go.Proofs.YtlmmjefplbcapaaGreat.R

/-
  Scripts in memory: what reads as a list of rules, of passes, as a script; and what a meaning hangs on.
-/
namespace Go.Proofs.YtlmmjefplbcapaaGreat.V
open Go.RowKit

structure Pass where
  name : ByteArray
  rules : List K.Rule

structure Script where
  has : Bool
  only : List S.Sp
  passes : List Pass

theorem sets_keeps {w w' : World} {v : Value} {l : List (List S.Sp)} (h : K.Ss w v l) (k : R.Keeps w w') : K.Ss w' v l := by
  obtain ⟨ao, cap, vs, rfl, hn, hl, hs, hc⟩ := h
  refine ⟨ao, cap, vs, rfl, hn, hl, ⟨hs.1, fun j u s hu hj => ?_⟩, fun hz => ?_⟩
  · obtain ⟨h1, h2, h3⟩ := hs.2 j u s hu hj
    exact ⟨h1, R.rd_keeps h2 k, h3⟩
  · obtain ⟨b, off, rfl, hc2⟩ := hc hz
    exact ⟨b, off, rfl, fun j u hj => k _ _ _ (hc2 j u hj)⟩
theorem runes_keeps {w w' : World} {v : Value} {l : List Int} (h : L.Rd w v .i32 l) (k : R.Keeps w w') : L.Rd w' v .i32 l := by
  obtain ⟨ao, cap, rfl, hn, h⟩ := h
  refine ⟨ao, cap, rfl, hn, fun hz => ?_⟩
  obtain ⟨b, off, rfl, hc⟩ := h hz
  exact ⟨b, off, rfl, fun j z hj => k _ _ _ (hc j z hj)⟩
theorem rule_keeps {w w' : World} {v : Value} {r : K.Rule} (h : K.RuIs w v r) (k : R.Keeps w w') : K.RuIs w' v r := by
  obtain ⟨bo, bc, so, sc, ao, ac, tgo, tc, rfl, h1, h2, h3, h4, h5⟩ := h
  exact ⟨bo, bc, so, sc, ao, ac, tgo, tc, rfl, sets_keeps h1 k, sets_keeps h2 k, sets_keeps h3 k, runes_keeps h4 k, h5⟩

/-- A SLICE VALUE READS AS A LIST OF RULES: seven cells each. -/
def Rus (w : World) (v : Value) (l : List K.Rule) : Prop :=
  ∃ ao cap, v = .slice ao l.length cap ∧ l.length ≤ 140737488355328 ∧ (l ≠ [] → ∃ b off, ao = some ⟨b, off, none⟩ ∧ ∀ (j : Nat) r, l[j]? = some r →
    ∃ bo bc so sc ao ac tgo tc,
      w.cell? ⟨b, off + j * 7, none⟩ = some (.bool r.start) ∧
      w.cell? ⟨b, off + j * 7 + 1, none⟩ = some (.bool r.fin) ∧
      w.cell? ⟨b, off + j * 7 + 2, none⟩ = some (.slice bo r.before.length bc) ∧
      w.cell? ⟨b, off + j * 7 + 3, none⟩ = some (.slice so r.source.length sc) ∧
      w.cell? ⟨b, off + j * 7 + 4, none⟩ = some (.slice ao r.after.length ac) ∧
      w.cell? ⟨b, off + j * 7 + 5, none⟩ = some (.slice tgo r.target.length tc) ∧
      w.cell? ⟨b, off + j * 7 + 6, none⟩ = some (.int .i64 r.cursor) ∧
      K.RuIs w (.agg #[.bool r.start, .bool r.fin, .slice bo r.before.length bc, .slice so r.source.length sc, .slice ao r.after.length ac, .slice tgo r.target.length tc, .int .i64 r.cursor]) r)
theorem Rus.nil (w : World) : Rus w (.slice none 0 0) [] := ⟨none, 0, rfl, by simp, fun h => absurd rfl h⟩
theorem Rus.len {w : World} {v : Value} {l : List K.Rule} (h : Rus w v l) : ∃ ao cap, v = .slice ao l.length cap := by
  obtain ⟨ao, cap, rfl, _⟩ := h; exact ⟨ao, cap, rfl⟩
theorem Rus.few {w : World} {v : Value} {l : List K.Rule} (h : Rus w v l) : l.length ≤ 140737488355328 := by
  obtain ⟨ao, cap, rfl, h, _⟩ := h; exact h
theorem Rus.keeps {w w' : World} {v : Value} {l : List K.Rule} (h : Rus w v l) (k : R.Keeps w w') : Rus w' v l := by
  obtain ⟨ao, cap, rfl, hl, h⟩ := h
  refine ⟨ao, cap, rfl, hl, fun hz => ?_⟩
  obtain ⟨b, off, rfl, hc⟩ := h hz
  refine ⟨b, off, rfl, fun j r hj => ?_⟩
  obtain ⟨bo, bc, so, sc, ao, ac, tgo, tc, c0, c1, c2, c3, c4, c5, c6, hr⟩ := hc j r hj
  exact ⟨bo, bc, so, sc, ao, ac, tgo, tc, k _ _ _ c0, k _ _ _ c1, k _ _ _ c2, k _ _ _ c3, k _ _ _ c4, k _ _ _ c5, k _ _ _ c6, rule_keeps hr k⟩
theorem Rus.below {w w' : World} {v : Value} {l : List K.Rule} (h : Rus w v l) (hb : Below w.heap.size w w') : Rus w' v l := h.keeps (R.Keeps.of_below hb (Nat.le_refl _))

/-- A SLICE VALUE READS AS A LIST OF PASSES: two cells each. -/
def Pas (w : World) (v : Value) (l : List Pass) : Prop :=
  ∃ ao cap, v = .slice ao l.length cap ∧ l.length ≤ 140737488355328 ∧ (l ≠ [] → ∃ b off, ao = some ⟨b, off, none⟩ ∧ ∀ (j : Nat) p, l[j]? = some p →
    w.cell? ⟨b, off + j * 2, none⟩ = some (.string p.name) ∧ p.name.size ≤ 140737488355328 ∧
    ∃ ro rc, w.cell? ⟨b, off + j * 2 + 1, none⟩ = some (.slice ro p.rules.length rc) ∧ Rus w (.slice ro p.rules.length rc) p.rules)
theorem Pas.nil (w : World) : Pas w (.slice none 0 0) [] := ⟨none, 0, rfl, by simp, fun h => absurd rfl h⟩
theorem Pas.len {w : World} {v : Value} {l : List Pass} (h : Pas w v l) : ∃ ao cap, v = .slice ao l.length cap := by
  obtain ⟨ao, cap, rfl, _⟩ := h; exact ⟨ao, cap, rfl⟩
theorem Pas.few {w : World} {v : Value} {l : List Pass} (h : Pas w v l) : l.length ≤ 140737488355328 := by
  obtain ⟨ao, cap, rfl, h, _⟩ := h; exact h
theorem Pas.keeps {w w' : World} {v : Value} {l : List Pass} (h : Pas w v l) (k : R.Keeps w w') : Pas w' v l := by
  obtain ⟨ao, cap, rfl, hl, h⟩ := h
  refine ⟨ao, cap, rfl, hl, fun hz => ?_⟩
  obtain ⟨b, off, rfl, hc⟩ := h hz
  refine ⟨b, off, rfl, fun j p hj => ?_⟩
  obtain ⟨c0, hn, ro, rc, c1, hr⟩ := hc j p hj
  exact ⟨k _ _ _ c0, hn, ro, rc, k _ _ _ c1, hr.keeps k⟩
theorem Pas.below {w w' : World} {v : Value} {l : List Pass} (h : Pas w v l) (hb : Below w.heap.size w w') : Pas w' v l := h.keeps (R.Keeps.of_below hb (Nat.le_refl _))

/-- a script's value: three cells -/
def ScIs (w : World) (v : Value) (s : Script) : Prop :=
  ∃ oo oc po pc, v = .agg #[.bool s.has, .slice oo s.only.length oc, .slice po s.passes.length pc] ∧ S.Rd w (.slice oo s.only.length oc) s.only ∧ s.only.length ≤ 140737488355328 ∧ Pas w (.slice po s.passes.length pc) s.passes
theorem ScIs.keeps {w w' : World} {v : Value} {s : Script} (h : ScIs w v s) (k : R.Keeps w w') : ScIs w' v s := by
  obtain ⟨oo, oc, po, pc, rfl, h1, h2, h3⟩ := h
  exact ⟨oo, oc, po, pc, rfl, R.rd_keeps h1 k, h2, h3.keeps k⟩
theorem ScIs.below {w w' : World} {v : Value} {s : Script} (h : ScIs w v s) (hb : Below w.heap.size w w') : ScIs w' v s := h.keeps (R.Keeps.of_below hb (Nat.le_refl _))

/-! What a meaning hangs on: the blocks that there are, two of them aside (the row of the passes, the row of the last pass's rules). -/
def Out (X Y : Nat) (w w' : World) : Prop := ∀ b, b < w.heap.size → b ≠ X → b ≠ Y → w'.heap[b]? = w.heap[b]?
def Off (X Y : Nat) (w : World) (Q : World → Prop) : Prop := ∀ w', w.heap.size ≤ w'.heap.size → Out X Y w w' → Q w'
theorem Off.here {X Y : Nat} {w : World} {Q : World → Prop} (h : Off X Y w Q) : Q w := h w (Nat.le_refl _) fun _ _ _ _ => rfl
/-- the world goes on, the two blocks aside -/
theorem Off.on {X Y : Nat} {w w1 : World} {Q : World → Prop} (h : Off X Y w Q) (hs : w.heap.size ≤ w1.heap.size) (ho : Out X Y w w1) : Off X Y w1 Q :=
  fun w' hs' ho' => h w' (Nat.le_trans hs hs') fun b hb h1 h2 => (ho' b (Nat.lt_of_lt_of_le hb hs) h1 h2).trans (ho b hb h1 h2)
/-- new blocks for the old ones -/
theorem Off.fresh {X Y X' Y' : Nat} {w w1 : World} {Q : World → Prop} (h : Off X Y w Q) (hs : w.heap.size ≤ w1.heap.size) (ho : Out X Y w w1) (hX : X' = X ∨ X' = Y ∨ w.heap.size ≤ X') (hY : Y' = Y ∨ Y' = X ∨ w.heap.size ≤ Y') : Off X' Y' w1 Q :=
  fun w' hs' ho' => h w' (Nat.le_trans hs hs') fun b hb h1 h2 => by
    have e1 : b ≠ X' := by rcases hX with rfl | rfl | h <;> first | assumption | omega
    have e2 : b ≠ Y' := by rcases hY with rfl | rfl | h <;> first | assumption | omega
    exact (ho' b (Nat.lt_of_lt_of_le hb hs) e1 e2).trans (ho b hb h1 h2)
/-- what is known of all worlds that keep the cells that there are, of new blocks X and Y -/
theorem Off.of_keeps {X Y : Nat} {w : World} {Q : World → Prop} (h : ∀ w', R.Keeps w w' → Q w') (hX : w.heap.size ≤ X) (hY : w.heap.size ≤ Y) : Off X Y w Q :=
  fun w' _ ho => h w' fun b o u hu => by
    have hb := L.block_lt hu
    have e := ho b hb (by omega) (by omega)
    rw [World.cell?_of_block (a := ⟨b, o, none⟩) e]; exact hu
theorem Off.imp {X Y : Nat} {w : World} {Q Q' : World → Prop} (h : Off X Y w Q) (k : ∀ w', Q w' → Q' w') : Off X Y w Q' := fun w' hs ho => k w' (h w' hs ho)
theorem Off.and {X Y : Nat} {w : World} {Q Q' : World → Prop} (h : Off X Y w Q) (h' : Off X Y w Q') : Off X Y w fun w' => Q w' ∧ Q' w' := fun w' hs ho => ⟨h w' hs ho, h' w' hs ho⟩
/-- a cell of a block that is neither -/
theorem Off.cell {X Y : Nat} {w : World} {b o : Nat} {u : Value} (h : w.cell? ⟨b, o, none⟩ = some u) (hX : b ≠ X) (hY : b ≠ Y) : Off X Y w fun w' => w'.cell? ⟨b, o, none⟩ = some u :=
  fun w' _ ho => by
    have e := ho b (L.block_lt h) hX hY
    show w'.cell? ⟨b, o, none⟩ = some u
    rw [World.cell?_of_block (a := ⟨b, o, none⟩) e]; exact h

end Go.Proofs.YtlmmjefplbcapaaGreat.V

/-
  Rules that are handed in: what reads as a list of them.
-/
namespace Go.Proofs.YtlmmjefplbcapaaGreat
open Go.ChangeShapes Go.WideShapes Go.ChangeAt Go.RowKit
set_option linter.unusedVariables false
set_option linter.unusedSimpArgs false

theorem Tryz.bytesRule : Tryz.prog.bytesOf 55 = 112 := by kernel_rfl
set_option maxRecDepth 100000 in
theorem rules_rd {H : Type} {enc : TypeId × Value → H} {W : World} {base : Nat} {v : Value} {d : DataW H} {p : List MemPlace}
    (hv : Value.okWide Tryz.prog W .any base 22 v) (h : DataW.Trod enc Tryz.prog W 0 (fun _ => true) true 22 v d p) (hw : ∀ n ∈ d.weights Tryz.prog 22, n ≤ reachBytes) :
    ∃ l : List K.Rule, V.Rus W v l := by
  obtain ⟨a0, len0, cap0, rfl⟩ := okWide_slice Tryz.underlying22 hv
  obtain ⟨fuel, hf⟩ := h
  have ce : Tryz.prog.cellsOf 55 = 7 := by kernel_rfl
  rcases Go.Deep.open_slice Tryz.underlying22 hf with ⟨hcs, hx⟩ | ⟨a, len, cap, m, n, D, Pl, hcs, _, hl, hm, hmm, hx, hcell⟩
  · simp [Value.cells] at hcs
    obtain ⟨rfl, rfl, rfl⟩ := hcs
    exact ⟨[], V.Rus.nil W⟩
  · simp [Value.cells] at hcs
    obtain ⟨rfl, rfl, rfl⟩ := hcs
    simp only [Prod.mk.injEq] at hx
    obtain ⟨rfl, rfl⟩ := hx
    simp only [if_true] at hmm
    subst hmm
    have hlen : len0 ≤ 140737488355328 := by
      have h1 := hw ((((List.range len0).map D).length + ((List.range (m - len0)).map fun j => D (len0 + j)).length) * 112) (by
        simp only [DataW.weights, Tryz.underlying22, Tryz.bytesRule]
        exact List.mem_cons_self)
      simp only [List.length_map, List.length_range, reachBytes] at h1
      omega
    have each : ∀ i, i < len0 → ∃ q : K.Rule × Array Value, K.RuIs W (.agg q.2) q.1 ∧ q.2.size = 7 ∧ ∀ j u, q.2[j]? = some u → W.cell? (a.add (i * 7 + j)) = some u := fun i hi => by
      obtain ⟨cs', h1, h2⟩ := hcell i (by omega)
      rw [ce] at h1
      obtain ⟨_, hlen', hcl⟩ := World.cells?_some h1
      match cs', hlen' with
      | [v0, v1, v2, v3, v4, v5, v6], _ =>
        obtain ⟨p, hp⟩ := rule_cells h2 fun n hn => hw n (by
          simp only [DataW.weights, Tryz.underlying22]
          refine List.mem_cons_of_mem _ (List.mem_append_left _ ?_)
          exact K.weights_all (d := D i) (List.mem_map.2 ⟨i, by simpa using hi, rfl⟩) _ hn)
        refine ⟨(p, #[v0, v1, v2, v3, v4, v5, v6]), hp, rfl, fun j u hj => ?_⟩
        have hj7 : j < 7 := (Array.getElem?_eq_some_iff.1 hj).1
        have e := hcl j hj7
        rw [Go.Deep.add_add] at e
        rw [e]
        have : ([v0, v1, v2, v3, v4, v5, v6] : List Value)[j]? = some u := by simpa using hj
        simpa using this
    have hne : Inhabited (K.Rule × Array Value) := ⟨(⟨false, false, [], [], [], [], 0⟩, #[])⟩
    obtain ⟨q, hq⟩ := Go.Deep.choose_lt each
    refine ⟨(List.range len0).map fun i => (q i).1, some a, m, by simp, by simpa using hlen, fun hne => ?_⟩
    have h0 : 0 < len0 := by
      cases len0 with
      | zero => simp at hne
      | succ => omega
    obtain ⟨b, off, spot⟩ := a
    have hsp : spot = none := by
      obtain ⟨_, h7, hc⟩ := hq 0 h0
      have := hc 0 ((q 0).2[0]'(by omega)) (by simp)
      simpa [Addr.add] using World.cell?_spot this
    subst hsp
    refine ⟨b, off, rfl, fun j e hj => ?_⟩
    have hj2 : j < len0 := by
      have := (List.getElem?_eq_some_iff.1 hj).1
      simpa using this
    have hej : (q j).1 = e := by
      rw [List.getElem?_map, List.getElem?_range hj2] at hj
      simpa using hj
    obtain ⟨hP, _, hc⟩ := hq j hj2
    rw [hej] at hP
    have hP0 := hP
    obtain ⟨bo, bc, so, sc, ao, ac, tgo, tc, he, _⟩ := hP
    have he2 := Value.agg.inj he
    rw [he2] at hP0 hc
    have cc : ∀ (i : Nat) (u : Value), (#[.bool e.start, .bool e.fin, .slice bo e.before.length bc, .slice so e.source.length sc, .slice ao e.after.length ac, .slice tgo e.target.length tc, .int .i64 e.cursor] : Array Value)[i]? = some u → W.cell? ⟨b, off + j * 7 + i, none⟩ = some u := fun i u hi => by
      have := hc i u hi
      rw [L.addr_add, ← Nat.add_assoc] at this
      exact this
    exact ⟨bo, bc, so, sc, ao, ac, tgo, tc, cc 0 _ rfl, cc 1 _ rfl, cc 2 _ rfl, cc 3 _ rfl, cc 4 _ rfl, cc 5 _ rfl, cc 6 _ rfl, hP0⟩

end Go.Proofs.YtlmmjefplbcapaaGreat
