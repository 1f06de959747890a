/-
  What resolve.rule makes of two sides.
-/
import Derived.Test.YtchkcjaahjhbcaaVPlain
import Derived.Test.YtchkcjaahjhbcaaVEach
import Derived.Deep.RegionHeld3
import Derived.Deep.DeepCutAuto
import Derived.Laws.ResultCell
namespace Go.Proofs.Ytchkcjaahjhbcaa
open Go.RowKit
set_option maxRecDepth 20000
set_option linter.unusedSimpArgs false
set_option linter.unusedVariables false

namespace V
/-- a meaning that hangs on the blocks from lo to hi alone -/
def Mn (lo hi : Nat) (W : World) (Q : World → Prop) : Prop := lo ≤ hi ∧ ∀ W', (∀ b, lo ≤ b → b < hi → W'.heap[b]? = W.heap[b]?) → Q W'
theorem Mn.below {lo hi : Nat} {W W' : World} {Q : World → Prop} (h : Mn lo hi W Q) (hb : Below W.heap.size W W') (hh : hi ≤ W.heap.size) : Mn lo hi W' Q :=
  ⟨h.1, fun W'' h2 => h.2 W'' fun b h3 h4 => (h2 b h3 h4).trans (hb.block b (by omega))⟩
theorem Mn.other {lo hi : Nat} {W W' : World} {Q : World → Prop} (h : Mn lo hi W Q) (hk : ∀ b, lo ≤ b → b < hi → W'.heap[b]? = W.heap[b]?) : Mn lo hi W' Q :=
  ⟨h.1, fun W'' h2 => h.2 W'' fun b h3 h4 => (h2 b h3 h4).trans (hk b h3 h4)⟩
theorem flat1 : ∀ {cs : List (List Value)}, (∀ c ∈ cs, c.length = 1) → ∀ j : Nat, cs.flatten[j]? = (cs[j]?).bind (·[0]?)
  | [], _, j => by simp
  | c :: cs, h, j => by
    have h1 := h c (List.mem_cons_self ..)
    match c, h1 with
    | [u], _ =>
      cases j with
      | zero => simp
      | succ j =>
        rw [List.flatten_cons, List.singleton_append, List.getElem?_cons_succ, List.getElem?_cons_succ]
        exact flat1 (fun c hc => h c (List.mem_cons_of_mem _ hc)) j
/-- a row of sets of one's own: what it means -/
theorem row_ss {F : Nat} {w : World} {v : Value} {l : List (List S.Sp)} (h : V.SetRow F w v l) (hf : ∀ s ∈ l, S.Fit s) (hl : l.length ≤ 1000) : ∃ ao cap, v = .slice ao l.length cap ∧ ∀ W', (∀ b, F ≤ b → b < w.heap.size → W'.heap[b]? = w.heap[b]?) → K.Ss W' v l := by
  obtain ⟨cs, own, hcl, hc, hst⟩ := h
  obtain ⟨ao, cap, hv, hn⟩ : ∃ ao cap, v = .slice ao l.length cap ∧ (ao = none → cap = 0) := by
    rcases own.2 with ⟨h, h1⟩ | ⟨g, cap, cur, h, _⟩
    · exact ⟨none, 0, by rw [h, h1], fun _ => rfl⟩
    · exact ⟨_, cap, h, fun e => by cases e⟩
  have hone : ∀ (j : Nat) s c, l[j]? = some s → cs[j]? = some c → ∃ u, c = [u] := fun j s c hs hj => by
    obtain ⟨u, so, sc, h1, _⟩ := (hst j s c hs hj).here
    exact ⟨u, h1⟩
  refine ⟨ao, cap, hv, fun W' hW => ?_⟩
  refine ⟨ao, cap, cs.flatten, hv, hn, by omega, ⟨?_, fun j u s hu hs => ?_⟩, fun hne => ?_⟩
  · have := own.1; omega
  · have hlt : j < cs.length := by rw [hcl]; exact (List.getElem?_eq_some_iff.1 hs).1
    obtain ⟨c, hcj⟩ : ∃ c, cs[j]? = some c := ⟨cs[j], by simp⟩
    obtain ⟨u', so, sc, h1, h2, h3⟩ := (hst j s c hs hcj) W' fun b h1 h2 _ => hW b h1 h2
    have hfl : cs.flatten[j]? = some u' := by
      have hk : ∀ c ∈ cs, c.length = 1 := fun c hc' => (hc c hc').1
      rw [flat1 hk j, hcj, h1]; rfl
    rw [hfl] at hu
    cases hu
    exact ⟨⟨so, sc, h2⟩, h3, hf s (List.mem_of_getElem? hs)⟩
  · rcases own.2 with ⟨_, h1⟩ | ⟨g, cap', cur, hv', hB, hg, _, _, hsz, htk⟩
    · exact absurd (List.eq_nil_of_length_eq_zero h1) hne
    · rw [hv] at hv'
      cases hv'
      refine ⟨g, 0, rfl, fun j u hj => ?_⟩
      have hgl : g < w.heap.size := (Array.getElem?_eq_some_iff.1 hg).1
      have e := hW g hB hgl
      rw [World.cell?_of_block (w := w) (a := ⟨g, 0 + j, none⟩) e]
      rw [← htk] at hj
      rw [World.cell?]
      simp only [show w.heap[g]? = _ from hg]
      rw [List.getElem?_take] at hj
      split at hj
      · simpa using hj
      · cases hj
end V

namespace V
/-- items that are right -/
def Right (l : List R.Item) : Prop := l.length ≤ 20 ∧ ∀ x ∈ l, R.itemE x = 0
theorem right_len {l : List R.Item} (h : Right l) : ∀ x ∈ l, x.kind = 2 → x.set.length ≤ 17592186044160 := fun x hx hk => by
  have := h.2 x hx
  unfold R.itemE at this
  rw [if_neg (by omega), if_pos hk] at this
  have := (S.wrongE_zero.1 this).1
  omega
theorem Mn.belowA {lo hi : Nat} {W Y : World} {o : Obj} {Q : World → Prop} (h : Mn lo hi W Q) (hb : Below (W.alloc o).heap.size (W.alloc o) Y) (hh : hi ≤ W.heap.size) : Mn lo hi Y Q := h.below ((Below.refl _ W).alloc (Nat.le_refl _) o |>.trans (hb.mono (by simp))) hh
/-- what there is is as it was, one block aside -/
def Ext (A B : World) (rb : Nat) : Prop := A.heap.size ≤ B.heap.size ∧ ∀ b, b < A.heap.size → b ≠ rb → B.heap[b]? = A.heap[b]?
theorem Ext.trans {A B C : World} {rb : Nat} (h : Ext A B rb) (h' : Ext B C rb) : Ext A C rb := ⟨Nat.le_trans h.1 h'.1, fun b hb hn => (h'.2 b (Nat.lt_of_lt_of_le hb h.1) hn).trans (h.2 b hb hn)⟩
theorem ext_z {X Y : World} {rb : Nat} (z : Below X.heap.size X Y) : Ext X Y rb := ⟨z.size, fun b hb _ => z.block b hb⟩
theorem ext_a {A : World} {o : Obj} {rb : Nat} : Ext A (A.alloc o) rb := ⟨by simp, fun b hb _ => Below.heap_alloc A o b hb⟩
theorem ext_g {A B : World} {rb : Nat} (h : A.grownBy B (some rb)) : Ext A B rb := ⟨h.size, fun b hb hn => h.block b hb fun e => hn (Option.some.inj e)⟩
/-- a rule that has been made: its box, and what its rows mean -/
def Made (w : World) (g : ByteArray → List S.Sp) (abe aso aaf bso : List R.Item) (wx : World) (rb : Nat) (st fi : Value) (p1 : Option Addr) (p2 : Nat) (s1 : Option Addr) (s2 : Nat) (a1 : Option Addr) (a2 : Nat) (t1 : Option Addr) (t2 : Nat) (bcu : Int) : Prop :=
  wx.heap[rb]? = some (.cells #[st, fi, .slice p1 abe.length p2, .slice s1 aso.length s2, .slice a1 aaf.length a2, .slice t1 bso.length t2, .int .i64 bcu] 65) ∧
  wx.heap[w.heap.size + 2]? = some (.cells #[.bool false, .bool false, .slice none 0 0, .slice none 0 0, .slice none 0 0, .slice none 0 0, .int .i64 0] 65) ∧ w.heap.size + 3 ≤ rb ∧ Below w.heap.size w wx ∧
  (∀ W', (∀ b, w.heap.size + 3 ≤ b → b ≠ rb → b < wx.heap.size → W'.heap[b]? = wx.heap[b]?) →
    K.Ss W' (.slice p1 abe.length p2) (abe.map (setOf g)) ∧ K.Ss W' (.slice s1 aso.length s2) (aso.map (setOf g)) ∧ K.Ss W' (.slice a1 aaf.length a2) (aaf.map (setOf g)) ∧ L.Rd W' (.slice t1 bso.length t2) .i32 (bso.map (·.rune)))
theorem made_mk {w : World} {g : ByteArray → List S.Sp} {abe aso aaf bso : List R.Item} {wx : World} {rb : Nat} {st fi : Value} {p1 : Option Addr} {p2 : Nat} {s1 : Option Addr} {s2 : Nat} {a1 : Option Addr} {a2 : Nat} {t1 : Option Addr} {t2 : Nat} {bcu : Int}
    (hF : wx.heap[rb]? = some (.cells #[st, fi, .slice p1 abe.length p2, .slice s1 aso.length s2, .slice a1 aaf.length a2, .slice t1 bso.length t2, .int .i64 bcu] 65))
    (h6 : wx.heap[w.heap.size + 2]? = some (.cells #[.bool false, .bool false, .slice none 0 0, .slice none 0 0, .slice none 0 0, .slice none 0 0, .int .i64 0] 65)) (hrb : w.heap.size + 3 ≤ rb) (hB : Below w.heap.size w wx)
    (m1 : ∀ W' : World, (∀ b, w.heap.size + 3 ≤ b → b ≠ rb → b < wx.heap.size → W'.heap[b]? = wx.heap[b]?) → K.Ss W' (.slice p1 abe.length p2) (abe.map (setOf g)))
    (m2 : ∀ W' : World, (∀ b, w.heap.size + 3 ≤ b → b ≠ rb → b < wx.heap.size → W'.heap[b]? = wx.heap[b]?) → K.Ss W' (.slice s1 aso.length s2) (aso.map (setOf g)))
    (m3 : ∀ W' : World, (∀ b, w.heap.size + 3 ≤ b → b ≠ rb → b < wx.heap.size → W'.heap[b]? = wx.heap[b]?) → K.Ss W' (.slice a1 aaf.length a2) (aaf.map (setOf g)))
    (m4 : ∀ W' : World, (∀ b, w.heap.size + 3 ≤ b → b ≠ rb → b < wx.heap.size → W'.heap[b]? = wx.heap[b]?) → L.Rd W' (.slice t1 bso.length t2) .i32 (bso.map (·.rune))) :
    Hid (Made w g abe aso aaf bso wx rb st fi p1 p2 s1 s2 a1 a2 t1 t2 bcu) := ⟨hF, h6, hrb, hB, fun W' hW => ⟨m1 W' hW, m2 W' hW, m3 W' hW, m4 W' hW⟩⟩
theorem goes {w X Y : World} (hX : Below w.heap.size w X) (z : Below X.heap.size X Y) : Below w.heap.size w Y := hX.trans (z.mono hX.size)
theorem rb_keep {X Y : World} {o : Obj} (z : Below (X.alloc o).heap.size (X.alloc o) Y) : Y.heap[X.heap.size]? = some o := (K.one_box z).1
theorem rb_keepD {X Y : World} {o : Obj} (z : Below ((X.alloc o).drew).heap.size ((X.alloc o).drew) Y) : Y.heap[X.heap.size]? = some o := (K.blk_below (w := (X.alloc o).drew) (heap_alloc_new X o) z)
theorem cells7 {w : World} {b : Nat} {v0 v1 v2 v3 v4 v5 v6 : Value} {t : TypeId} (h : w.heap[b]? = some (.cells #[v0, v1, v2, v3, v4, v5, v6] t)) :
    (w.cell? ⟨b, 0, none⟩ = some v0 ∧ w.cell? ⟨b, 1, none⟩ = some v1 ∧ w.cell? ⟨b, 2, none⟩ = some v2 ∧ w.cell? ⟨b, 3, none⟩ = some v3 ∧ w.cell? ⟨b, 4, none⟩ = some v4 ∧ w.cell? ⟨b, 5, none⟩ = some v5 ∧ w.cell? ⟨b, 6, none⟩ = some v6) ∧ ∀ i, w.frozen? ⟨b, i, none⟩ = false :=
  ⟨⟨K.at_box h rfl, K.at_box h rfl, K.at_box h rfl, K.at_box h rfl, K.at_box h rfl, K.at_box h rfl, K.at_box h rfl⟩, fun i => frozen_of_row w b i _ _ h⟩
/-- seven stores into a box -/
theorem set1_is {W : World} {b i : Nat} {c : Array Value} {t : TypeId} (h : W.heap[b]? = some (.cells c t)) (v : Value) :
    (W.setCell ⟨b, i, none⟩ v).heap[b]? = some (.cells (c.setIfInBounds i v) t) ∧ W.grownBy (W.setCell ⟨b, i, none⟩ v) (some b) :=
  ⟨heap_setCell_same W b i _ _ v h, rfl, rfl, rfl, by simp, fun k _ hk => heap_setCell_other W ⟨b, i, none⟩ k _ fun e => hk (by rw [e])⟩
theorem set7_is {W : World} {b : Nat} {u0 u1 u2 u3 u4 u5 u6 : Value} {t : TypeId} (h : W.heap[b]? = some (.cells #[u0, u1, u2, u3, u4, u5, u6] t)) (v0 v1 v2 v3 v4 v5 v6 : Value) :
    (((((((W.setCell ⟨b, 0, none⟩ v0).setCell ⟨b, 1, none⟩ v1).setCell ⟨b, 2, none⟩ v2).setCell ⟨b, 3, none⟩ v3).setCell ⟨b, 4, none⟩ v4).setCell ⟨b, 5, none⟩ v5).setCell ⟨b, 6, none⟩ v6).heap[b]? = some (.cells #[v0, v1, v2, v3, v4, v5, v6] t) ∧ W.grownBy (((((((W.setCell ⟨b, 0, none⟩ v0).setCell ⟨b, 1, none⟩ v1).setCell ⟨b, 2, none⟩ v2).setCell ⟨b, 3, none⟩ v3).setCell ⟨b, 4, none⟩ v4).setCell ⟨b, 5, none⟩ v5).setCell ⟨b, 6, none⟩ v6) (some b) := by
  obtain ⟨e0, g0⟩ := set1_is (i := 0) h v0
  generalize W.setCell ⟨b, 0, none⟩ v0 = X0 at *
  obtain ⟨e1, g1⟩ := set1_is (i := 1) e0 v1
  generalize X0.setCell ⟨b, 1, none⟩ v1 = X1 at *
  obtain ⟨e2, g2⟩ := set1_is (i := 2) e1 v2
  generalize X1.setCell ⟨b, 2, none⟩ v2 = X2 at *
  obtain ⟨e3, g3⟩ := set1_is (i := 3) e2 v3
  generalize X2.setCell ⟨b, 3, none⟩ v3 = X3 at *
  obtain ⟨e4, g4⟩ := set1_is (i := 4) e3 v4
  generalize X3.setCell ⟨b, 4, none⟩ v4 = X4 at *
  obtain ⟨e5, g5⟩ := set1_is (i := 5) e4 v5
  generalize X4.setCell ⟨b, 5, none⟩ v5 = X5 at *
  obtain ⟨e6, g6⟩ := set1_is (i := 6) e5 v6
  generalize X5.setCell ⟨b, 6, none⟩ v6 = X6 at *
  exact ⟨by rw [e6]; simp, S.grown_trans (S.grown_trans (S.grown_trans (S.grown_trans (S.grown_trans (S.grown_trans g0 g1) g2) g3) g4) g5) g6⟩
end V

end Go.Proofs.Ytchkcjaahjhbcaa
