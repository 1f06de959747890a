/-
  What has been read stays while more is read: readings that hang on certain blocks alone; rows of structs that are appended to.
-/
import Derived.Test.YtchkcjaahjhbcaaRLib
import Derived.Test.YtchkcjaahjhbcaaRows
import Derived.Laws.AppendOwnNone
import Derived.Laws.OwnMore
namespace Go.Proofs.Ytchkcjaahjhbcaa
open Go.RowKit
namespace R

/-- Q holds wherever the blocks from F on, up to the world's end, but X, are as they are. -/
def Stays (F : Nat) (X : Option Nat) (w : World) (Q : World → Prop) : Prop := ∀ w', (∀ b, F ≤ b → b < w.heap.size → some b ≠ X → w'.heap[b]? = w.heap[b]?) → Q w'

theorem Stays.here {F : Nat} {X : Option Nat} {w : World} {Q : World → Prop} (h : Stays F X w Q) : Q w := h w fun _ _ _ _ => rfl
theorem Stays.step {F : Nat} {X : Option Nat} {w w' : World} {Q : World → Prop} (h : Stays F X w Q) (hs : w.heap.size ≤ w'.heap.size) (hk : ∀ b, F ≤ b → b < w.heap.size → some b ≠ X → w'.heap[b]? = w.heap[b]?) : Stays F X w' Q :=
  fun w'' h2 => h w'' fun b h3 h4 h5 => (h2 b h3 (by omega) h5).trans (hk b h3 h4 h5)
theorem Stays.cur {F cb : Nat} {X : Option Nat} {w w' : World} {Q : World → Prop} (h : Stays F X w Q) (hg : w.grownBy w' (some cb)) (hc : cb < F) : Stays F X w' Q :=
  h.step hg.size fun b h1 h2 _ => hg.block b h2 (by simp; omega)
theorem Stays.below {F : Nat} {X : Option Nat} {w w' : World} {Q : World → Prop} (h : Stays F X w Q) (hb : Below w.heap.size w w') : Stays F X w' Q :=
  h.step hb.size fun b _ h2 _ => hb.block b h2
theorem Stays.mono {F F' : Nat} {X X' : Option Nat} {w : World} {Q : World → Prop} (h : Stays F X w Q) (hF : F' ≤ F) (hX : ∀ b, F ≤ b → some b ≠ X → some b ≠ X') : Stays F' X' w Q :=
  fun w' h2 => h w' fun b h3 h4 h5 => h2 b (by omega) h4 (hX b h3 h5)
theorem Stays.down {F F' : Nat} {w : World} {Q : World → Prop} (h : Stays F none w Q) (hF : F' ≤ F) : Stays F' none w Q := h.mono hF fun _ _ h => h
theorem Stays.imp {F : Nat} {X : Option Nat} {w : World} {Q Q' : World → Prop} (h : Stays F X w Q) (hi : ∀ w, Q w → Q' w) : Stays F X w Q' := fun w' h2 => hi _ (h w' h2)
theorem Stays.and {F : Nat} {X : Option Nat} {w : World} {Q Q' : World → Prop} (h : Stays F X w Q) (h' : Stays F X w Q') : Stays F X w fun w => Q w ∧ Q' w := fun w' h2 => ⟨h w' h2, h' w' h2⟩
theorem Stays.const {F : Nat} {X : Option Nat} {w : World} {p : Prop} (h : p) : Stays F X w fun _ => p := fun _ _ => h

theorem blk_grown {w w' : World} {b cb : Nat} {o : Obj} (h : w.heap[b]? = some o) (hg : w.grownBy w' (some cb)) (hne : b ≠ cb) : w'.heap[b]? = some o := by
  rw [hg.block b (Array.getElem?_eq_some_iff.1 h).1 (by simpa using hne)]; exact h
theorem blk_below {w w' : World} {b : Nat} {o : Obj} (h : w.heap[b]? = some o) (hb : Below w.heap.size w w') : w'.heap[b]? = some o := by
  rw [hb.block b (Array.getElem?_eq_some_iff.1 h).1]; exact h
theorem cell_same {w w' : World} {b o : Nat} (h : w'.heap[b]? = w.heap[b]?) : w'.cell? ⟨b, o, none⟩ = w.cell? ⟨b, o, none⟩ := World.cell?_of_block (a := ⟨b, o, none⟩) h

/-- a slice of spans that is no elder than F -/
theorem rd_stays {F : Nat} {w : World} {v : Value} {s : List S.Sp} (h : S.Rd w v s) (hf : ∀ g, v.ownBlock = some g → F ≤ g) : Stays F none w fun w' => S.Rd w' v s := fun w' hk => by
  refine h.cells fun b o u hu he => ?_
  obtain ⟨ao, n, c, rfl, a, rfl, rfl⟩ := he
  rw [cell_same (hk _ (hf _ rfl) (L.block_lt hu) (by simp))]
  exact hu

/-! rows -/
/-- what a slice type and its elements are -/
structure Elem (t e : TypeId) (k : Nat) : Prop where
  ht : Try.prog.underlying t = some (.slice e)
  hi : ∃ z bytes, (Try.prog.info? e).map (fun i => (i.zero, i.size, i.bytes)) = some (some z, k, bytes) ∧ bytes ≤ 1024 ∧ z.cells.size = k
  hk : 0 < k

/-- what is appended to lies where it lay, or in a new block -/
theorem run_app {t e : TypeId} {k : Nat} (E : Elem t e k) (w : World) (ty : TypeId) (base : Nat) (v : Value) (n : Nat) (xs : List Value) (hown : w.ownsRow base e k v n xs)
    (a : Addr) (m c : Nat) (news : List Value) (hl : news.length = m * k) (hnews : ∀ j u, news[j]? = some u → w.cell? (a.add j) = some u) (h1 : ∀ u ∈ news, u.oneCell' = true) (hs : n + m ≤ 100000000) (hbase : base ≤ w.heap.size) :
    ∃ v' w', (Builtin.append_ #[t, t] ty #[v, .slice (some a) m c]).run Try.prog w = .ok v' w' ∧ w'.ownsRow base e k v' (n + m) (xs ++ news) ∧ w.grownBy w' v.ownBlock ∧ (∀ g, v'.ownBlock = some g → v.ownBlock = some g ∨ w.heap.size ≤ g) := by
  obtain ⟨z, bytes, hinfo, hby, hzs⟩ := E.hi
  obtain ⟨i, hi, hz, hsz, hb⟩ := info_parts hinfo
  have hbytes : (n + m) * bytes ≤ 140737488355328 := by
    have : (n + m) * bytes ≤ 100000000 * 1024 := Nat.mul_le_mul hs hby
    omega
  have h63 : n + m ≤ maxLen := by unfold maxLen; omega
  obtain ⟨v', w', hr, h2, h3, _⟩ := run_append_own (P := Try.prog) w base t ty e i z k bytes E.ht hi hz hsz hb hzs E.hk v n xs hown a m c news hl hnews h1 h63 hbytes hbase
  refine ⟨v', w', hr, h2, h3, fun g hg => ?_⟩
  rcases hown.2 with ⟨rfl, rfl⟩ | ⟨g0, cap, cur, rfl, hbg, hgg, hnc, hcm, hcs, htake⟩
  · have hx : xs = [] := List.eq_nil_of_length_eq_zero (by simpa using hown.1)
    subst hx
    obtain ⟨v2, w2, hr2, h22, _, _⟩ := run_append_own (P := Try.prog) w w.heap.size t ty e i z k bytes E.ht hi hz hsz hb hzs E.hk (.slice none 0 0) 0 [] (World.ownsRow_nil _ _ _ _) a m c news hl hnews h1 h63 hbytes (Nat.le_refl _)
    rw [hr] at hr2
    cases hr2
    exact .inr (World.ownsRow.lt h22 g hg).1
  · by_cases hroom : n + m ≤ cap
    · have hfit : n * i.size + news.length ≤ cur.size := by rw [hl, hcs, hsz, ← Nat.add_mul]; exact Nat.mul_le_mul_right _ hroom
      have hr2 := run_append_room (P := Try.prog) w t ty e i E.ht hi g0 n cap cur hgg a m c news (by rw [hsz]; exact hl) hnews h1 hroom hfit
      rw [hr] at hr2
      cases hr2
      exact .inl hg
    · have holds : ∀ j u, xs[j]? = some u → w.cell? ((⟨g0, 0, none⟩ : Addr).add j) = some u := hown.cells (g := g0) rfl
      have hr2 := run_append_grow (P := Try.prog) w t ty e i z E.ht hi hz ⟨g0, 0, none⟩ n cap xs (by rw [hsz]; exact hown.1) holds a m c news (by rw [hsz]; exact hl) hnews (by omega) (by omega) (growslice_fits (by omega) (by rw [hb]; exact hbytes))
      rw [hr] at hr2
      cases hr2
      cases hg
      exact .inr (Nat.le_refl _)

/-- A ROW OF STRUCTS that is the call's own: the cells of each, and what they mean, which hangs on no block elder than F, nor on the row's. -/
def Row {α : Type} (e : TypeId) (k : Nat) (El : α → List Value → World → Prop) (F : Nat) (w : World) (v : Value) (xs : List α) : Prop :=
  ∃ cs : List (List Value), w.ownsRow F e k v xs.length cs.flatten ∧ cs.length = xs.length ∧ (∀ c ∈ cs, c.length = k ∧ ∀ u ∈ c, u.oneCell' = true) ∧ ∀ (j : Nat) x c, xs[j]? = some x → cs[j]? = some c → Stays F v.ownBlock w (El x c)

section
variable {α : Type} {t e : TypeId} {k F : Nat} {El : α → List Value → World → Prop} {w w' : World} {v : Value} {xs ys : List α}

theorem Row.nil (F : Nat) (w : World) : Row e k El F w (.slice none 0 0) ([] : List α) := ⟨[], World.ownsRow_nil _ _ _ _, rfl, fun c hc => (by cases hc), fun j x c hx => (by cases hx)⟩
theorem Row.lt (h : Row e k El F w v xs) : ∀ g, v.ownBlock = some g → F ≤ g ∧ g < w.heap.size := by
  obtain ⟨cs, own, _⟩ := h
  exact World.ownsRow.lt own
theorem Row.slice (h : Row e k El F w v xs) : ∃ ao cap, v = .slice ao xs.length cap := by
  obtain ⟨cs, own, _⟩ := h
  rcases own.2 with ⟨rfl, h0⟩ | ⟨g, cap, cur, rfl, _⟩
  · exact ⟨none, 0, by rw [h0]⟩
  · exact ⟨_, _, rfl⟩
theorem Row.keep (h : Row e k El F w v xs) (hs : w.heap.size ≤ w'.heap.size) (hk : ∀ b, F ≤ b → b < w.heap.size → w'.heap[b]? = w.heap[b]?) : Row e k El F w' v xs := by
  obtain ⟨cs, own, hl, hc, hel⟩ := h
  refine ⟨cs, ?_, hl, hc, fun j x c hx hcj => (hel j x c hx hcj).step hs fun b h1 h2 _ => hk b h1 h2⟩
  rcases own.2 with ⟨hv, h0⟩ | ⟨g, cap, cur, hv, h1, h2, h3⟩
  · exact ⟨own.1, .inl ⟨hv, h0⟩⟩
  · refine ⟨own.1, .inr ⟨g, cap, cur, hv, h1, ?_, h3⟩⟩
    rw [hk g h1 (Array.getElem?_eq_some_iff.1 h2).1]; exact h2
theorem Row.cur {cb : Nat} (h : Row e k El F w v xs) (hg : w.grownBy w' (some cb)) (hc : cb < F) : Row e k El F w' v xs :=
  h.keep hg.size fun b h1 h2 => hg.block b h2 (by simp; omega)
theorem Row.below (h : Row e k El F w v xs) (hb : Below w.heap.size w w') : Row e k El F w' v xs := h.keep hb.size fun b _ h2 => hb.block b h2
theorem Row.down {F' : Nat} (h : Row e k El F w v xs) (hF : F' ≤ F) : Row e k El F' w v xs := by
  obtain ⟨cs, own, hl, hc, hel⟩ := h
  exact ⟨cs, L.owns_base own hF, hl, hc, fun j x c hx hcj => (hel j x c hx hcj).mono hF fun _ _ h => h⟩
theorem flat_get {cs : List (List Value)} (hc : ∀ c ∈ cs, c.length = k) : ∀ (j i : Nat) c u, cs[j]? = some c → c[i]? = some u → cs.flatten[j * k + i]? = some u := by
  induction cs with
  | nil => intro j i c u h; cases h
  | cons d cs ih =>
    intro j i c u hj hi
    have hd := hc d (by simp)
    rw [List.flatten_cons]
    cases j with
    | zero =>
      cases hj
      rw [Nat.zero_mul, Nat.zero_add, List.getElem?_append_left (by rw [← hd] at *; exact (List.getElem?_eq_some_iff.1 hi).1)]
      exact hi
    | succ j =>
      have := ih (fun c hc' => hc c (List.mem_cons_of_mem _ hc')) j i c u (by simpa using hj) hi
      rw [List.getElem?_append_right (by rw [hd, Nat.succ_mul]; omega), hd, Nat.succ_mul]
      rw [show j * k + k + i - k = j * k + i by omega]
      exact this
/-- the cells of a row's struct, wherever the blocks from F on stay -/
theorem Row.at (h : Row e k El F w v xs) {j : Nat} {x : α} (hx : xs[j]? = some x) : ∃ g c, v.ownBlock = some g ∧ (∃ cap, v = .slice (some ⟨g, 0, none⟩) xs.length cap) ∧ c.length = k ∧
    Stays F none w (fun w' => (∀ i u, c[i]? = some u → w'.cell? ⟨g, 0 + j * k + i, none⟩ = some u) ∧ El x c w') := by
  obtain ⟨cs, own, hl, hc, hel⟩ := h
  have hlt := (List.getElem?_eq_some_iff.1 hx).1
  obtain ⟨c, hcj⟩ : ∃ c, cs[j]? = some c := ⟨cs[j]'(by omega), by simp [hl ▸ hlt]⟩
  have hcells := fun g hg => World.ownsRow.cells own (g := g) hg
  rcases own.2 with ⟨hv, h0⟩ | ⟨g, cap, cur, hv, h1, h2, h3⟩
  · omega
  · have hob : v.ownBlock = some g := by rw [hv]; rfl
    refine ⟨g, c, hob, ⟨cap, hv⟩, (hc c (List.mem_of_getElem? hcj)).1, fun w' hk => ⟨fun i u hi => ?_, ?_⟩⟩
    · have := hcells g hob _ u (flat_get (fun c hc' => (hc c hc').1) j i c u hcj hi)
      rw [L.addr_add] at this
      rw [Nat.zero_add] at this ⊢
      rw [cell_same (hk g h1 (Array.getElem?_eq_some_iff.1 h2).1 (by simp))]
      exact this
    · exact hel j x c hx hcj w' fun b h4 h5 _ => hk b h4 h5 (by simp)

/-- one struct behind the others, and several -/
theorem Row.add (E : Elem t e k) (ty : TypeId) (h : Row e k El F w v xs) {F2 : Nat} {v2 : Value} (h2 : Row e k El F2 w v2 ys) (hF : F ≤ F2) (hne : ∀ g, v.ownBlock = some g → g < F2) (hs : xs.length + ys.length ≤ 100000000) (hb : F ≤ w.heap.size) :
    ∃ v' w', (Builtin.append_ #[t, t] ty #[v, v2]).run Try.prog w = .ok v' w' ∧ Row e k El F w' v' (xs ++ ys) ∧ w.grownBy w' v.ownBlock ∧ (∀ g, v'.ownBlock = some g → v.ownBlock = some g ∨ w.heap.size ≤ g) := by
  obtain ⟨cs, own, hl, hc, hel⟩ := h
  obtain ⟨ds, own2, hl2, hc2, hel2⟩ := h2
  have cells2 := fun g hg => World.ownsRow.cells own2 (g := g) hg
  rcases own2.2 with ⟨rfl, h0⟩ | ⟨g2, cap2, cur2, rfl, hbg2, hgg2, _⟩
  · have hy : ys = [] := List.eq_nil_of_length_eq_zero h0
    subst hy
    obtain ⟨z, bytes, hinfo, _, _⟩ := E.hi
    obtain ⟨i, hi, _, _, _⟩ := info_parts hinfo
    refine ⟨v, w, run_append_owned_none (P := Try.prog) w F t ty e i k E.ht hi v xs.length cs.flatten own, ?_, ⟨rfl, rfl, rfl, Nat.le_refl _, fun _ _ _ => rfl⟩, fun g hg => .inl hg⟩
    rw [List.append_nil]
    exact ⟨cs, own, hl, hc, hel⟩
  · obtain ⟨v', w', hr, o', gr, hnew⟩ := run_app E w ty F v xs.length cs.flatten own ⟨g2, 0, none⟩ ys.length cap2 ds.flatten own2.1 (cells2 g2 rfl) (fun u hu => by
      obtain ⟨c, hcm, hu⟩ := List.mem_flatten.1 hu
      exact (hc2 c hcm).2 u hu) hs hb
    refine ⟨v', w', hr, ⟨cs ++ ds, ?_, by simp [hl, hl2], fun c hcm => ?_, fun j x c hx hcj => ?_⟩, gr, hnew⟩
    · rw [List.flatten_append, List.length_append]; exact o'
    · rcases List.mem_append.1 hcm with h | h
      · exact hc c h
      · exact hc2 c h
    · have st : Stays F v.ownBlock w (El x c) := by
        by_cases hj : j < xs.length
        · rw [List.getElem?_append_left hj] at hx
          rw [List.getElem?_append_left (by omega)] at hcj
          exact hel j x c hx hcj
        · rw [List.getElem?_append_right (by omega)] at hx
          rw [List.getElem?_append_right (by omega), hl] at hcj
          exact (hel2 _ x c hx hcj).mono hF fun b hb _ he => by have := hne b he.symm; omega
      intro w'' hk
      refine st w'' fun b h1 h3 h4 => ?_
      have e1 : w'.heap[b]? = w.heap[b]? := gr.block b h3 h4
      rw [← e1]
      refine hk b h1 (by have := gr.size; omega) fun he => ?_
      rcases hnew b he.symm with h5 | h5
      · exact h4 h5.symm
      · omega

/-- a row of one struct, just laid -/
theorem Row.one (c : List Value) (hc : c.length = k) (h1 : ∀ u ∈ c, u.oneCell' = true) {x : α} (hel : Stays F none w (El x c)) (hF : F ≤ w.heap.size) : Row e k El F (w.alloc (.cells c.toArray e)) (.slice (some ⟨w.heap.size, 0, none⟩) 1 1) [x] := by
  refine ⟨[c], ⟨by simp [hc], .inr ⟨w.heap.size, 1, c.toArray, rfl, hF, heap_alloc_new w _, Nat.le_refl _, by unfold maxLen; omega, by simp [hc], ?_⟩⟩, rfl, fun d hd => ?_, fun j y d hy hd => ?_⟩
  · simp [← hc]
  · rw [List.mem_singleton] at hd; subst hd; exact ⟨hc, h1⟩
  · match j, hy, hd with
    | 0, hy, hd =>
      cases hy
      cases hd
      intro w'' hk
      refine hel w'' fun b h1 h2 _ => ?_
      rw [hk b h1 (by simp; omega) (by simp [Value.ownBlock]; omega)]
      exact Below.heap_alloc w _ b h2
end

/-! boxes -/
theorem at_box' {w : World} {b i : Nat} {c : Array Value} {t : TypeId} {v : Value} (h : w.heap[b]? = some (.cells c t)) (hv : c[i]? = some v) : w.cell? ⟨b, i, none⟩ = some v := by
  rw [World.cell?]; simp [h, hv]
theorem free_box {w : World} {b i : Nat} {c : Array Value} {t : TypeId} (h : w.heap[b]? = some (.cells c t)) : w.frozen? ⟨b, i, none⟩ = false := by
  rw [World.frozen?]; simp [h]
theorem grown_set (w : World) (b j : Nat) (v : Value) : w.grownBy (w.setCell ⟨b, j, none⟩ v) (some b) :=
  ⟨rfl, rfl, rfl, by simp, fun k _ hk => heap_setCell_other w ⟨b, j, none⟩ k v (fun e => hk (by simp [e]))⟩
theorem put4 {w : World} {g : Nat} {o0 o1 o2 o3 : Value} {t : TypeId} (h : w.heap[g]? = some (.cells #[o0, o1, o2, o3] t)) (a b c d : Value) :
    ((((w.setCell ⟨g, 0, none⟩ a).setCell ⟨g, 1, none⟩ b).setCell ⟨g, 2, none⟩ c).setCell ⟨g, 3, none⟩ d).heap[g]? = some (.cells #[a, b, c, d] t) ∧
    w.grownBy ((((w.setCell ⟨g, 0, none⟩ a).setCell ⟨g, 1, none⟩ b).setCell ⟨g, 2, none⟩ c).setCell ⟨g, 3, none⟩ d) (some g) := by
  have h1 := heap_setCell_same w g 0 _ t a h
  have h2 := heap_setCell_same _ g 1 _ t b h1
  have h3 := heap_setCell_same _ g 2 _ t c h2
  have h4 := heap_setCell_same _ g 3 _ t d h3
  exact ⟨h4, S.grown_trans (S.grown_trans (S.grown_trans (grown_set _ _ _ _) (grown_set _ _ _ _)) (grown_set _ _ _ _)) (grown_set _ _ _ _)⟩

theorem put3 {w : World} {g : Nat} {o0 o1 o2 : Value} {t : TypeId} (h : w.heap[g]? = some (.cells #[o0, o1, o2] t)) (a b c : Value) :
    (((w.setCell ⟨g, 0, none⟩ a).setCell ⟨g, 1, none⟩ b).setCell ⟨g, 2, none⟩ c).heap[g]? = some (.cells #[a, b, c] t) ∧
    w.grownBy (((w.setCell ⟨g, 0, none⟩ a).setCell ⟨g, 1, none⟩ b).setCell ⟨g, 2, none⟩ c) (some g) := by
  have h1 := heap_setCell_same w g 0 _ t a h
  have h2 := heap_setCell_same _ g 1 _ t b h1
  have h3 := heap_setCell_same _ g 2 _ t c h2
  exact ⟨h3, S.grown_trans (S.grown_trans (grown_set _ _ _ _) (grown_set _ _ _ _)) (grown_set _ _ _ _)⟩
theorem blk_row {w w' : World} {b : Nat} {o : Obj} {X : Option Nat} (h : w.heap[b]? = some o) (hg : w.grownBy w' X) (hne : ∀ g, X = some g → g ≠ b) : w'.heap[b]? = some o := by
  rw [hg.block b (Array.getElem?_eq_some_iff.1 h).1 (fun e => hne b e.symm rfl)]; exact h

theorem put6 {w : World} {g : Nat} {o0 o1 o2 o3 o4 o5 : Value} {t : TypeId} (h : w.heap[g]? = some (.cells #[o0, o1, o2, o3, o4, o5] t)) (a0 a1 a2 a3 a4 a5 : Value) :
    ((((((w.setCell ⟨g, 0, none⟩ a0).setCell ⟨g, 1, none⟩ a1).setCell ⟨g, 2, none⟩ a2).setCell ⟨g, 3, none⟩ a3).setCell ⟨g, 4, none⟩ a4).setCell ⟨g, 5, none⟩ a5).heap[g]? = some (.cells #[a0, a1, a2, a3, a4, a5] t) ∧ w.grownBy ((((((w.setCell ⟨g, 0, none⟩ a0).setCell ⟨g, 1, none⟩ a1).setCell ⟨g, 2, none⟩ a2).setCell ⟨g, 3, none⟩ a3).setCell ⟨g, 4, none⟩ a4).setCell ⟨g, 5, none⟩ a5) (some g) := by
  have h0 := heap_setCell_same _ g 0 _ t a0 h
  have h1 := heap_setCell_same _ g 1 _ t a1 h0
  have h2 := heap_setCell_same _ g 2 _ t a2 h1
  have h3 := heap_setCell_same _ g 3 _ t a3 h2
  have h4 := heap_setCell_same _ g 4 _ t a4 h3
  have h5 := heap_setCell_same _ g 5 _ t a5 h4
  exact ⟨h5, S.grown_trans (S.grown_trans (S.grown_trans (S.grown_trans (S.grown_trans (grown_set _ _ _ _) (grown_set _ _ _ _)) (grown_set _ _ _ _)) (grown_set _ _ _ _)) (grown_set _ _ _ _)) (grown_set _ _ _ _)⟩
/-- cells of a box, set one after the other -/
def setAll (w : World) (g : Nat) : Nat → List Value → World
  | _, [] => w
  | i, v :: vs => setAll (w.setCell ⟨g, i, none⟩ v) g (i + 1) vs
theorem putAll {g : Nat} {t : TypeId} : ∀ (vs : List Value) (w : World) (i : Nat) (cs : Array Value), w.heap[g]? = some (.cells cs t) → cs.size = i + vs.length →
    (setAll w g i vs).heap[g]? = some (.cells (cs.toList.take i ++ vs).toArray t) ∧ w.grownBy (setAll w g i vs) (some g) := by
  intro vs
  induction vs with
  | nil =>
    intro w i cs h hs
    refine ⟨?_, S.grown_refl _ _⟩
    rw [List.append_nil, List.take_of_length_le (by simp at hs ⊢; omega)]
    exact h
  | cons v vs ih =>
    intro w i cs h hs
    have h1 := heap_setCell_same w g i cs t v h
    obtain ⟨h2, h3⟩ := ih (w.setCell ⟨g, i, none⟩ v) (i + 1) _ h1 (by simp at hs ⊢; omega)
    refine ⟨?_, S.grown_trans (grown_set _ _ _ _) h3⟩
    rw [setAll, h2]
    congr 3
    simp only [List.length_cons] at hs
    rw [Array.toList_setIfInBounds, List.take_add_one, List.take_set_of_le (Nat.le_refl _), List.getElem?_set_self (by simp; omega)]
    simp
theorem put16 {w : World} {g : Nat} {o0 o1 o2 o3 o4 o5 o6 o7 o8 o9 o10 o11 o12 o13 o14 o15 : Value} {t : TypeId} (h : w.heap[g]? = some (.cells #[o0, o1, o2, o3, o4, o5, o6, o7, o8, o9, o10, o11, o12, o13, o14, o15] t)) (a0 a1 a2 a3 a4 a5 a6 a7 a8 a9 a10 a11 a12 a13 a14 a15 : Value) :
    ((((((((((((((((w.setCell ⟨g, 0, none⟩ a0).setCell ⟨g, 1, none⟩ a1).setCell ⟨g, 2, none⟩ a2).setCell ⟨g, 3, none⟩ a3).setCell ⟨g, 4, none⟩ a4).setCell ⟨g, 5, none⟩ a5).setCell ⟨g, 6, none⟩ a6).setCell ⟨g, 7, none⟩ a7).setCell ⟨g, 8, none⟩ a8).setCell ⟨g, 9, none⟩ a9).setCell ⟨g, 10, none⟩ a10).setCell ⟨g, 11, none⟩ a11).setCell ⟨g, 12, none⟩ a12).setCell ⟨g, 13, none⟩ a13).setCell ⟨g, 14, none⟩ a14).setCell ⟨g, 15, none⟩ a15).heap[g]? = some (.cells #[a0, a1, a2, a3, a4, a5, a6, a7, a8, a9, a10, a11, a12, a13, a14, a15] t) ∧ w.grownBy ((((((((((((((((w.setCell ⟨g, 0, none⟩ a0).setCell ⟨g, 1, none⟩ a1).setCell ⟨g, 2, none⟩ a2).setCell ⟨g, 3, none⟩ a3).setCell ⟨g, 4, none⟩ a4).setCell ⟨g, 5, none⟩ a5).setCell ⟨g, 6, none⟩ a6).setCell ⟨g, 7, none⟩ a7).setCell ⟨g, 8, none⟩ a8).setCell ⟨g, 9, none⟩ a9).setCell ⟨g, 10, none⟩ a10).setCell ⟨g, 11, none⟩ a11).setCell ⟨g, 12, none⟩ a12).setCell ⟨g, 13, none⟩ a13).setCell ⟨g, 14, none⟩ a14).setCell ⟨g, 15, none⟩ a15) (some g) :=
  putAll [a0, a1, a2, a3, a4, a5, a6, a7, a8, a9, a10, a11, a12, a13, a14, a15] w 0 _ h rfl
theorem Stays.fresh {F : Nat} {w : World} {Q : World → Prop} (h : Stays F none w Q) (o : Obj) : Stays F (some w.heap.size) (w.alloc o) Q := fun w' hk => h w' fun b h1 h2 _ => by
  rw [hk b h1 (by simp; omega) (by simp; omega)]; exact Below.heap_alloc w o b h2
theorem Stays.atX {F g : Nat} {w w' : World} {Q : World → Prop} (h : Stays F (some g) w Q) (hg : w.grownBy w' (some g)) : Stays F (some g) w' Q := h.step hg.size fun b _ h2 h3 => hg.block b h2 h3
theorem Stays.high {F F' g : Nat} {w : World} {Q : World → Prop} (h : Stays F none w Q) (hF : F' ≤ F) (hg : g < F) : Stays F' (some g) w Q := h.mono hF fun b h1 _ e => by cases e; omega
theorem Stays.free {F F' g : Nat} {w : World} {Q : World → Prop} (h : Stays F (some g) w Q) (hF : F' ≤ F) : Stays F' none w Q := h.mono hF fun b _ _ e => by cases e
theorem Stays.drew {F : Nat} {X : Option Nat} {w : World} {Q : World → Prop} (h : Stays F X w Q) : Stays F X w.drew Q := h

theorem putMid {g : Nat} {t : TypeId} : ∀ (vs : List Value) (w : World) (i : Nat) (cs : Array Value), w.heap[g]? = some (.cells cs t) → i + vs.length ≤ cs.size →
    (setAll w g i vs).heap[g]? = some (.cells (cs.toList.take i ++ vs ++ cs.toList.drop (i + vs.length)).toArray t) ∧ w.grownBy (setAll w g i vs) (some g) := by
  intro vs
  induction vs with
  | nil =>
    intro w i cs h hs
    refine ⟨?_, S.grown_refl _ _⟩
    rw [List.append_nil, List.length_nil, Nat.add_zero, List.take_append_drop]
    exact h
  | cons v vs ih =>
    intro w i cs h hs
    have h1 := heap_setCell_same w g i cs t v h
    simp only [List.length_cons] at hs
    obtain ⟨h2, h3⟩ := ih (w.setCell ⟨g, i, none⟩ v) (i + 1) _ h1 (by simp; omega)
    refine ⟨?_, S.grown_trans (grown_set _ _ _ _) h3⟩
    rw [setAll, h2]
    congr 3
    rw [Array.toList_setIfInBounds, List.take_add_one, List.take_set_of_le (Nat.le_refl _), List.getElem?_set_self (by simp; omega), List.drop_set_of_lt (by omega)]
    simp only [List.length_cons, Option.toList_some, List.append_assoc, List.cons_append, List.nil_append]
    rw [show i + 1 + vs.length = i + (vs.length + 1) by omega]

end R
end Go.Proofs.Ytchkcjaahjhbcaa
