/-
  Parts, sides and items in memory: what reads as a list of them.
-/
import Derived.Test.YtnalcmlhfmgfdaaRMath
import Derived.Test.YtnalcmlhfmgfdaaSLib
namespace Go.Proofs.Ytnalcmlhfmgfdaa.R
open Go.RowKit

def I64 (n : Int) : Prop := -9223372036854775808 ≤ n ∧ n ≤ 9223372036854775807

/-- A SLICE VALUE READS AS A LIST OF ITEMS. -/
def Its (w : World) (v : Value) (l : List Item) : Prop :=
  ∃ ao cap, v = .slice ao l.length cap ∧ (l ≠ [] → ∃ b off, ao = some ⟨b, off, none⟩ ∧ ∀ j x, l[j]? = some x →
    w.cell? ⟨b, off + j * 4, none⟩ = some (.int .i64 x.kind) ∧ w.cell? ⟨b, off + j * 4 + 1, none⟩ = some (.int .i32 x.rune) ∧ w.cell? ⟨b, off + j * 4 + 3, none⟩ = some (.string x.name) ∧
    (∃ so sc, w.cell? ⟨b, off + j * 4 + 2, none⟩ = some (.slice so x.set.length sc) ∧ S.Rd w (.slice so x.set.length sc) x.set) ∧ S.Fit x.set ∧ x.name.size ≤ 140737488355328)

def SdIs (w : World) (v : Value) (s : Side) : Prop :=
  ∃ bo bc so sc ao ac, v = .agg #[.bool s.start, .bool s.fin, .slice bo s.before.length bc, .slice so s.source.length sc, .slice ao s.after.length ac, .int .i64 s.cursor] ∧
    Its w (.slice bo s.before.length bc) s.before ∧ Its w (.slice so s.source.length sc) s.source ∧ Its w (.slice ao s.after.length ac) s.after ∧ I64 s.cursor

/-- a part: sixteen cells -/
def PtIs (w : World) (v : Value) (p : Part) : Prop :=
  ∃ so sc v4 v5 v6 v7 v8 v9 v10 v11 v12 v13 v14 v15, v = .agg #[.int .i64 p.kind, .string p.name, .slice so p.set.length sc, .int .i64 p.dir, v4, v5, v6, v7, v8, v9, v10, v11, v12, v13, v14, v15] ∧
    S.Rd w (.slice so p.set.length sc) p.set ∧ S.Fit p.set ∧ SdIs w (.agg #[v4, v5, v6, v7, v8, v9]) p.left ∧ SdIs w (.agg #[v10, v11, v12, v13, v14, v15]) p.right ∧ p.name.size ≤ 140737488355328 ∧ I64 p.dir

/-- A SLICE VALUE READS AS A LIST OF PARTS: sixteen cells each. -/
def Pts (w : World) (v : Value) (l : List Part) : Prop :=
  ∃ ao cap, v = .slice ao l.length cap ∧ (l ≠ [] → ∃ b off, ao = some ⟨b, off, none⟩ ∧ ∀ j p, l[j]? = some p →
    ∃ so sc lbo lbc lso lsc lao lac rbo rbc rso rsc rao rac,
      w.cell? ⟨b, off + j * 16, none⟩ = some (.int .i64 p.kind) ∧
      w.cell? ⟨b, off + j * 16 + 1, none⟩ = some (.string p.name) ∧
      w.cell? ⟨b, off + j * 16 + 2, none⟩ = some (.slice so p.set.length sc) ∧
      w.cell? ⟨b, off + j * 16 + 3, none⟩ = some (.int .i64 p.dir) ∧
      w.cell? ⟨b, off + j * 16 + 4, none⟩ = some (.bool p.left.start) ∧
      w.cell? ⟨b, off + j * 16 + 5, none⟩ = some (.bool p.left.fin) ∧
      w.cell? ⟨b, off + j * 16 + 6, none⟩ = some (.slice lbo p.left.before.length lbc) ∧
      w.cell? ⟨b, off + j * 16 + 7, none⟩ = some (.slice lso p.left.source.length lsc) ∧
      w.cell? ⟨b, off + j * 16 + 8, none⟩ = some (.slice lao p.left.after.length lac) ∧
      w.cell? ⟨b, off + j * 16 + 9, none⟩ = some (.int .i64 p.left.cursor) ∧
      w.cell? ⟨b, off + j * 16 + 10, none⟩ = some (.bool p.right.start) ∧
      w.cell? ⟨b, off + j * 16 + 11, none⟩ = some (.bool p.right.fin) ∧
      w.cell? ⟨b, off + j * 16 + 12, none⟩ = some (.slice rbo p.right.before.length rbc) ∧
      w.cell? ⟨b, off + j * 16 + 13, none⟩ = some (.slice rso p.right.source.length rsc) ∧
      w.cell? ⟨b, off + j * 16 + 14, none⟩ = some (.slice rao p.right.after.length rac) ∧
      w.cell? ⟨b, off + j * 16 + 15, none⟩ = some (.int .i64 p.right.cursor) ∧
      PtIs w (.agg #[.int .i64 p.kind, .string p.name, .slice so p.set.length sc, .int .i64 p.dir, .bool p.left.start, .bool p.left.fin, .slice lbo p.left.before.length lbc, .slice lso p.left.source.length lsc, .slice lao p.left.after.length lac, .int .i64 p.left.cursor, .bool p.right.start, .bool p.right.fin, .slice rbo p.right.before.length rbc, .slice rso p.right.source.length rsc, .slice rao p.right.after.length rac, .int .i64 p.right.cursor]) p)

theorem Its.nil (w : World) : Its w (.slice none 0 0) [] := ⟨none, 0, rfl, fun h => absurd rfl h⟩
theorem Its.len {w : World} {v : Value} {l : List Item} (h : Its w v l) : ∃ ao cap, v = .slice ao l.length cap := by
  obtain ⟨ao, cap, rfl, _⟩ := h; exact ⟨ao, cap, rfl⟩
theorem Pts.len {w : World} {v : Value} {l : List Part} (h : Pts w v l) : ∃ ao cap, v = .slice ao l.length cap := by
  obtain ⟨ao, cap, rfl, _⟩ := h; exact ⟨ao, cap, rfl⟩

/-- what is laid stays -/
def Keeps (w w' : World) : Prop := ∀ b o u, w.cell? ⟨b, o, none⟩ = some u → w'.cell? ⟨b, o, none⟩ = some u

theorem Keeps.of_below {w w' : World} {B : Nat} (hb : Below B w w') (hB : w.heap.size ≤ B) : Keeps w w' := fun b o u hu => by
  have := L.block_lt hu
  rw [hb.cell (p := ⟨b, o, none⟩) (by show b < B; omega)]; exact hu
theorem Keeps.trans {w w1 w2 : World} (h : Keeps w w1) (h' : Keeps w1 w2) : Keeps w w2 := fun b o u hu => h' b o u (h b o u hu)

theorem rd_keeps {w w' : World} {v : Value} {l : List S.Sp} (h : S.Rd w v l) (k : Keeps w w') : S.Rd w' v l := h.cells fun b o u hu _ => k b o u hu
theorem Its.keeps {w w' : World} {v : Value} {l : List Item} (h : Its w v l) (k : Keeps w w') : Its w' v l := by
  obtain ⟨ao, cap, rfl, h⟩ := h
  refine ⟨ao, cap, rfl, fun hz => ?_⟩
  obtain ⟨b, off, rfl, hc⟩ := h hz
  refine ⟨b, off, rfl, fun j x hj => ?_⟩
  obtain ⟨h1, h2, h3, ⟨so, sc, h4, h5⟩, h6⟩ := hc j x hj
  exact ⟨k _ _ _ h1, k _ _ _ h2, k _ _ _ h3, ⟨so, sc, k _ _ _ h4, rd_keeps h5 k⟩, h6⟩
theorem SdIs.keeps {w w' : World} {v : Value} {s : Side} (h : SdIs w v s) (k : Keeps w w') : SdIs w' v s := by
  obtain ⟨bo, bc, so, sc, ao, ac, rfl, h1, h2, h3, h4⟩ := h
  exact ⟨bo, bc, so, sc, ao, ac, rfl, h1.keeps k, h2.keeps k, h3.keeps k, h4⟩
theorem PtIs.keeps {w w' : World} {v : Value} {p : Part} (h : PtIs w v p) (k : Keeps w w') : PtIs w' v p := by
  obtain ⟨so, sc, v4, v5, v6, v7, v8, v9, v10, v11, v12, v13, v14, v15, rfl, h1, h2, h3, h4, h5⟩ := h
  exact ⟨so, sc, v4, v5, v6, v7, v8, v9, v10, v11, v12, v13, v14, v15, rfl, rd_keeps h1 k, h2, h3.keeps k, h4.keeps k, h5⟩
theorem Pts.keeps {w w' : World} {v : Value} {l : List Part} (h : Pts w v l) (k : Keeps w w') : Pts w' v l := by
  obtain ⟨ao, cap, rfl, h⟩ := h
  refine ⟨ao, cap, rfl, fun hz => ?_⟩
  obtain ⟨b, off, rfl, hc⟩ := h hz
  refine ⟨b, off, rfl, fun j p hj => ?_⟩
  obtain ⟨so, sc, lbo, lbc, lso, lsc, lao, lac, rbo, rbc, rso, rsc, rao, rac, c0, c1, c2, c3, c4, c5, c6, c7, c8, c9, c10, c11, c12, c13, c14, c15, hp⟩ := hc j p hj
  exact ⟨so, sc, lbo, lbc, lso, lsc, lao, lac, rbo, rbc, rso, rsc, rao, rac, k _ _ _ c0, k _ _ _ c1, k _ _ _ c2, k _ _ _ c3, k _ _ _ c4, k _ _ _ c5, k _ _ _ c6, k _ _ _ c7, k _ _ _ c8, k _ _ _ c9, k _ _ _ c10, k _ _ _ c11, k _ _ _ c12, k _ _ _ c13, k _ _ _ c14, k _ _ _ c15, hp.keeps k⟩
theorem Its.below {w w' : World} {v : Value} {l : List Item} (h : Its w v l) (hb : Below w.heap.size w w') : Its w' v l := h.keeps (Keeps.of_below hb (Nat.le_refl _))
theorem SdIs.below {w w' : World} {v : Value} {s : Side} (h : SdIs w v s) (hb : Below w.heap.size w w') : SdIs w' v s := h.keeps (Keeps.of_below hb (Nat.le_refl _))
theorem PtIs.below {w w' : World} {v : Value} {p : Part} (h : PtIs w v p) (hb : Below w.heap.size w w') : PtIs w' v p := h.keeps (Keeps.of_below hb (Nat.le_refl _))
theorem Pts.below {w w' : World} {v : Value} {l : List Part} (h : Pts w v l) (hb : Below w.heap.size w w') : Pts w' v l := h.keeps (Keeps.of_below hb (Nat.le_refl _))
theorem Keeps.alloc (w : World) (o : Obj) : Keeps w (w.alloc o) := Keeps.of_below ((Below.refl _ w).alloc (Nat.le_refl _) o) (Nat.le_refl _)

/-- a part's cells, by name -/
theorem PtIs.open {w : World} {v : Value} {p : Part} (h : PtIs w v p) : ∃ so sc lbo lbc lso lsc lao lac rbo rbc rso rsc rao rac,
    v = .agg #[.int .i64 p.kind, .string p.name, .slice so p.set.length sc, .int .i64 p.dir, .bool p.left.start, .bool p.left.fin, .slice lbo p.left.before.length lbc, .slice lso p.left.source.length lsc, .slice lao p.left.after.length lac, .int .i64 p.left.cursor,
      .bool p.right.start, .bool p.right.fin, .slice rbo p.right.before.length rbc, .slice rso p.right.source.length rsc, .slice rao p.right.after.length rac, .int .i64 p.right.cursor] ∧
    S.Rd w (.slice so p.set.length sc) p.set ∧ S.Fit p.set ∧
    SdIs w (.agg #[.bool p.left.start, .bool p.left.fin, .slice lbo p.left.before.length lbc, .slice lso p.left.source.length lsc, .slice lao p.left.after.length lac, .int .i64 p.left.cursor]) p.left ∧
    SdIs w (.agg #[.bool p.right.start, .bool p.right.fin, .slice rbo p.right.before.length rbc, .slice rso p.right.source.length rsc, .slice rao p.right.after.length rac, .int .i64 p.right.cursor]) p.right ∧
    p.name.size ≤ 140737488355328 ∧ I64 p.dir := by
  obtain ⟨so, sc, v4, v5, v6, v7, v8, v9, v10, v11, v12, v13, v14, v15, rfl, h1, h2, h3, h4, h5, h6⟩ := h
  have k3 := h3
  have k4 := h4
  obtain ⟨lbo, lbc, lso, lsc, lao, lac, he, _⟩ := k3
  obtain ⟨rbo, rbc, rso, rsc, rao, rac, hf, _⟩ := k4
  simp only [Value.agg.injEq, Array.mk.injEq, List.cons.injEq, and_true] at he hf
  obtain ⟨rfl, rfl, rfl, rfl, rfl, rfl⟩ := he
  obtain ⟨rfl, rfl, rfl, rfl, rfl, rfl⟩ := hf
  exact ⟨so, sc, lbo, lbc, lso, lsc, lao, lac, rbo, rbc, rso, rsc, rao, rac, rfl, h1, h2, h3, h4, h5, h6⟩

end Go.Proofs.Ytnalcmlhfmgfdaa.R
