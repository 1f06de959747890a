/-
  Runes that are sorted, and runs of the same made one: slices.Sort and slices.Compact of a row of the call's own.
-/
import Derived.Test.YtlmmjefplbcapaaGreatZPdq
import Derived.Shelf.SlicesE.Compact
import Derived.Shelf.SlGeneric
import Derived.Laws.AppendOwn
import Derived.Test.YtlmmjefplbcapaaGreatYRus
import Derived.Test.YtlmmjefplbcapaaGreatRows
import Derived.Test.YtlmmjefplbcapaaGreatKI32
namespace Go.Proofs.YtlmmjefplbcapaaGreat
open Go.Shelf Go.RowKit Go.Sort Go.Lib
set_option maxRecDepth 20000
set_option linter.unusedSimpArgs false
set_option linter.unusedVariables false

set_option maxHeartbeats 1000000 in
theorem zsort_any (w : World) (blk off cap : Nat) (d : Array Int) (hH : Holds Z.en w blk off d) (h0 : 0 < d.size) (hsz : d.size < 1152921504606846976) :
    Calls Tryz.prog 78 #[.slice (some ⟨blk, off, none⟩) d.size cap] w fun x w' => x = .returned (.tuple #[]) ∧ ∃ R, Z.Fin w blk off 0 d.size d R w' := by
  have hbl : blk < w.heap.size := World.block_lt_of_cell? w _ (hH 0 (by omega)).1
  obtain ⟨n, hn⟩ : ∃ n, n = d.size := ⟨_, rfl⟩
  have e0 : Lib.bitLen n = bitsLen n := bitLen_eq n (by omega)
  have hk : bitsLen n ≤ 62 := (bitsLen_le_iff n 62).2 (by omega)
  have hL : Hid (∀ w, Calls Tryz.prog 84 #[.int .u64 (n : Int)] w fun e w' => e = .returned (.int .i64 (bitsLen n : Int)) ∧ w' = w) := fun w => by
    have h := Any.bits_Len Tryz.lays125 (n : Int) w (by omega) (by omega)
    rw [Int.toNat_natCast, e0] at h
    exact h
  have hP : Hid (Calls Tryz.prog 83 #[.slice (some ⟨blk, off, none⟩) n cap, .int .i64 0, .int .i64 n, .int .i64 (bitsLen n : Int)] w fun x w' => x = .returned (.tuple #[]) ∧ ∃ R, Z.Fin w blk off 0 n d R w') := by
    rw [hn]
    exact zpdq_any d.size w blk off cap 0 d.size (bitsLen d.size) d (by omega) hH hbl (.inl rfl) (by omega) (Nat.le_refl _) hsz (by rw [← hn]; omega)
  rw [← hn]
  have hn62 : n < 1152921504606846976 := by omega
  generalize bitsLen n = k at hL hP hk
  clear hn hsz h0 e0 hH
  go_enter Tryz.func78, Tryz.ntmps78
  go_wp2_with fail
  go_at_call 84
  refine (hL.out _).mono ?_
  rintro _ _ ⟨rfl, rfl⟩
  go_wp2_with fail
  go_at_call 83
  refine hP.out.mono ?_
  rintro _ w2 ⟨rfl, hR⟩
  go_wp2_with fail
  go_end0
  exact ⟨rfl, hR⟩

namespace Z
abbrev ints (t : List Int) : List Value := t.map (Value.int .i32)
theorem holds_of_block {w : World} {g : Nat} {cur : Array Value} {e : TypeId} {t : List Int} (hb : w.heap[g]? = some (.cells cur e (0, 0))) (ht : cur.toList.take t.length = ints t) : Holds en w g 0 t.toArray := by
  intro j hj
  have hj' : j < t.length := by simpa using hj
  refine ⟨?_, by simp [World.frozen?, hb]⟩
  have h1 : (cur.toList.take t.length)[j]? = (ints t)[j]? := by rw [ht]
  rw [List.getElem?_take_of_lt hj'] at h1
  simp only [World.cell?, hb, Nat.zero_add]
  simp only [Option.isSome_none, Bool.false_eq_true, if_false]
  rw [← Array.getElem?_toList, h1]
  simp [hj']
theorem take_put (cur : Array Value) (ts : List Int) (m : Nat) (hm : m ≤ ts.length) (h : ts.length ≤ cur.size) : (putCells en 0 ts.toArray cur).toList.take m = ints (ts.take m) := by
  apply List.ext_getElem?
  intro j
  by_cases hj : j < m
  · have h1 : j < ts.length := by omega
    have h2 : j < cur.size := by omega
    rw [List.getElem?_take_of_lt hj, Array.getElem?_toList]
    simp [putCells, hj, h1, h2]
  · rw [List.getElem?_take_eq_none (by omega), List.getElem?_eq_none (by simp; omega)]
theorem heap_put {w : World} {g n : Nat} {os : Array Obj} {cur : Array Value} {e : TypeId} {fr : Nat × Nat} (d : Array Int) (hb : w.heap[g]? = some (.cells cur e fr)) : (grow (putRow en (Sort.ahead w n) g 0 d) os).heap[g]? = some (.cells (putCells en 0 d cur) e fr) := by
  have hg : g < w.heap.size := (Array.getElem?_eq_some_iff.1 hb).1
  rw [heap_grow_old _ _ (by simpa using hg)]
  simp [putRow, mapBlock, Sort.ahead, Array.getElem?_modify, hb, onCells]
theorem grown_put {w : World} {g n : Nat} {os : Array Obj} (d : Array Int) : w.grownBy (grow (putRow en (Sort.ahead w n) g 0 d) os) (some g) := by
  refine ⟨rfl, rfl, rfl, by simp, fun k hk hne => ?_⟩
  rw [heap_grow_old _ _ (by simpa using hk)]
  have : g ≠ k := fun e => hne (by rw [e])
  simp [putRow, mapBlock, Sort.ahead, Array.getElem?_modify, this]
/-- a row of which the first m are kept -/
theorem owns_put {w : World} {base g cap n m : Nat} {e : TypeId} {os : Array Obj} {cur : Array Value} {ts : List Int} (hm : m ≤ ts.length) (hbase : base ≤ g) (hb : w.heap[g]? = some (.cells cur e (0, 0))) (h1 : ts.length ≤ cap) (h2 : cap ≤ maxLen) (h3 : cur.size = cap * 1) :
    (grow (putRow en (Sort.ahead w n) g 0 ts.toArray) os).ownsRow base e 1 (.slice (some ⟨g, 0, none⟩) m cap) m (ints (ts.take m)) :=
  ⟨by simp [hm], .inr ⟨g, cap, _, rfl, hbase, heap_put _ hb, by omega, h2, by simp [putCells, h3], by rw [Nat.mul_one]; exact take_put cur ts m hm (by omega)⟩⟩

theorem uniq (d : Array Int) (hs : SortedIn ltInt 0 d.size d) : ∀ m, m ≤ d.size → (compactUpTo d m).Pairwise (· < ·) ∧ (∀ x, x ∈ compactUpTo d m ↔ ∃ j, j < m ∧ d[j]! = x) := by
  intro m
  induction m with
  | zero => intro _; simp [compactUpTo]
  | succ m ih =>
    intro hm
    obtain ⟨h1, h2⟩ := ih (by omega)
    rw [compactUpTo_succ]
    have hle : ∀ i, i < m → d[i]! ≤ d[m]! := fun i hi => by
      have := hs i m (by omega) hi (by omega)
      simp [ltInt] at this
      omega
    by_cases hk : keeps d m = true
    · rw [if_pos hk]
      refine ⟨?_, fun x => ?_⟩
      · rw [List.pairwise_append]
        refine ⟨h1, by simp, fun x hx y hy => ?_⟩
        obtain ⟨j, hj, rfl⟩ := (h2 x).1 hx
        simp at hy
        subst hy
        have hm0 : m ≠ 0 := by omega
        simp [keeps, hm0] at hk
        have e1 := hle (m - 1) (by omega)
        have e2 : d[j]! ≤ d[m - 1]! := by
          by_cases hjm : j = m - 1
          · rw [hjm]; exact Int.le_refl _
          · have := hs j (m - 1) (by omega) (by omega) (by omega)
            simp [ltInt] at this
            omega
        omega
      · rw [List.mem_append, h2, List.mem_singleton]
        constructor
        · rintro (⟨j, hj, rfl⟩ | rfl)
          · exact ⟨j, by omega, rfl⟩
          · exact ⟨m, by omega, rfl⟩
        · rintro ⟨j, hj, rfl⟩
          by_cases hjm : j = m
          · subst hjm; exact .inr rfl
          · exact .inl ⟨j, by omega, rfl⟩
    · rw [if_neg hk, List.append_nil]
      refine ⟨h1, fun x => ?_⟩
      rw [h2]
      simp [keeps] at hk
      constructor
      · rintro ⟨j, hj, rfl⟩; exact ⟨j, by omega, rfl⟩
      · rintro ⟨j, hj, rfl⟩
        by_cases hjm : j = m
        · subst hjm; exact ⟨j - 1, by omega, hk.2.symm⟩
        · exact ⟨j, by omega, rfl⟩
theorem up_len (d : Array Int) (m : Nat) : (compactUpTo d m).length ≤ m := by
  unfold compactUpTo
  rw [List.length_map]
  exact Nat.le_trans (List.length_filter_le _ _) (by simp)
end Z

shelf_lay_g SlLaysE.n43 Slgn 43 at Tryz 79 as Tryz.compactR

theorem zsort_own (w : World) (base : Nat) (v : Value) (t : List Int) (own : w.ownsRow base 21 1 v t.length (Z.ints t)) (h0 : t ≠ []) (hsz : t.length < 1152921504606846976) :
    Calls Tryz.prog 78 #[v] w fun x w' => x = .returned (.tuple #[]) ∧ ∃ R : Array Int, R.size = t.length ∧ SortedIn ltInt 0 R.size R ∧ (∀ x, x ∈ R.toList ↔ x ∈ t) ∧ w'.ownsRow base 21 1 v t.length (Z.ints R.toList) ∧ w.grownBy w' v.ownBlock := by
  obtain ⟨_, ⟨rfl, hn⟩ | ⟨g, cap, cur, rfl, hbase, hb, h1, h2, h3, h4⟩⟩ := own
  · exact absurd (List.length_eq_zero_iff.1 hn) h0
  have hl : 0 < t.length := List.length_pos_iff.2 h0
  rw [Nat.mul_one] at h4
  have hh := zsort_any w g 0 cap t.toArray (Z.holds_of_block hb h4) (by simpa using hl) (by simpa using hsz)
  simp only [List.size_toArray] at hh
  refine hh.mono ?_
  rintro x w' ⟨hx, R, ⟨n, os, rfl⟩, hP, hS⟩
  have hs : R.size = t.length := by simpa using hP.1
  refine ⟨hx, R, hs, by rw [hs]; exact hS, fun y => ?_, ?_, Z.grown_put _⟩
  · have hp := hP.2.2
    have e1 : (t.toArray.extract 0 t.length).toList = t := by simp
    have e2 : (R.extract 0 t.length).toList = R.toList := by rw [← hs]; simp
    rw [e1, e2] at hp
    exact hp.mem_iff
  · have h := Z.owns_put (w := w) (base := base) (g := g) (cap := cap) (n := n) (m := t.length) (os := os) (ts := R.toList) (by simp [hs]) hbase hb (by simp [hs]; omega) h2 h3
    rw [List.take_of_length_le (by simp [hs])] at h
    simpa using h

theorem zcompact_own (w : World) (base : Nat) (v : Value) (R : Array Int) (own : w.ownsRow base 21 1 v R.size (Z.ints R.toList)) (h0 : 0 < R.size) (hS : SortedIn ltInt 0 R.size R) :
    Calls Tryz.prog 79 #[v] w fun x w' => ∃ (v' : Value) (c : List Int), x = .returned v' ∧ c.Pairwise (· < ·) ∧ (∀ y, y ∈ c ↔ y ∈ R.toList) ∧ w'.ownsRow base 21 1 v' c.length (Z.ints c) ∧ w.grownBy w' v.ownBlock ∧ v'.ownBlock = v.ownBlock := by
  obtain ⟨_, ⟨rfl, hn⟩ | ⟨g, cap, cur, rfl, hbase, hb, h1, h2, h3, h4⟩⟩ := own
  · omega
  rw [Nat.mul_one] at h4
  have hH : Holds Z.en w g 0 R := by
    have := Z.holds_of_block (t := R.toList) hb (by simpa using h4)
    simpa using this
  have hh := AnyE.slices_Compact Tryz.compactR Z.en (fun x => rfl) (EqlAt.intD _ _ _) (NeqAt.intD _ _ _) (0 : Int) (fun w => by rfl) g 0 cap R w hH (by unfold maxLen at h2; omega) h1
  refine hh.mono ?_
  rintro x w' ⟨hx, q, hw⟩
  obtain ⟨u1, u2⟩ := Z.uniq R hS R.size (Nat.le_refl _)
  have hlen := Z.up_len R R.size
  refine ⟨_, compactUpTo R R.size, hx, u1, fun y => ?_, ?_, ?_, rfl⟩
  · rw [u2]
    constructor
    · rintro ⟨j, hj, rfl⟩; rw [getElem!_pos R j hj]; exact Array.getElem_mem_toList hj
    · intro hy
      obtain ⟨j, hj, rfl⟩ := List.getElem_of_mem hy
      have hj' : j < R.size := by simpa using hj
      exact ⟨j, hj', by rw [getElem!_pos R j hj']; simp⟩
  · have h := Z.owns_put (w := w) (base := base) (g := g) (cap := cap) (n := q) (m := (compactUpTo R R.size).length) (os := #[]) (ts := compactUpTo R R.size ++ List.replicate (R.size - (compactUpTo R R.size).length) (0 : Int)) (by simp) hbase hb (by simp; omega) h2 h3
    rw [List.take_left', grow_empty, ← hw] at h
    · exact h
    · rfl
  · have h := Z.grown_put (w := w) (g := g) (n := q) (os := #[]) (compactUpTo R R.size ++ List.replicate (R.size - (compactUpTo R R.size).length) (0 : Int)).toArray
    rw [grow_empty, ← hw] at h
    exact h

end Go.Proofs.YtlmmjefplbcapaaGreat

/-
  The numbers from which on other rules may begin: compile.edges.
-/
namespace Go.Proofs.YtlmmjefplbcapaaGreat
open Go.RowKit Go.Shelf
set_option maxRecDepth 20000
set_option linter.unusedSimpArgs false
set_option linter.unusedVariables false

namespace J
def ends (s : List S.Sp) : List Int := s.flatMap fun x => [x.1, x.2 + 1]
def edgesL (l : List K.Rule) : List Int := [0, 1114112] ++ l.flatMap fun r => ends (K.headS r)
theorem ends_take {s : List S.Sp} {k : Nat} {x : S.Sp} (h : s[k]? = some x) : ends (s.take (k + 1)) = ends (s.take k) ++ [x.1, x.2 + 1] := by
  unfold ends; rw [List.take_add_one, h, List.flatMap_append]; simp
theorem edgesL_take {l : List K.Rule} {k : Nat} {r : K.Rule} (h : l[k]? = some r) : edgesL (l.take (k + 1)) = edgesL (l.take k) ++ ends (K.headS r) := by
  unfold edgesL; rw [List.take_add_one, h, List.flatMap_append, List.append_assoc]; simp
theorem ends_len (s : List S.Sp) : (ends s).length = 2 * s.length := by
  unfold ends
  induction s with
  | nil => rfl
  | cons x s ih => rw [List.flatMap_cons, List.length_append, ih]; simp; omega
theorem edgesL_len {l : List K.Rule} (hE : ∀ r ∈ l, K.ruleE r = 0) : (edgesL l).length ≤ 2 + 400 * l.length := by
  induction l with
  | nil => simp [edgesL]
  | cons x l ih =>
    have h1 := (K.head_ok (hE x (List.mem_cons_self ..))).2
    have h2 := ih fun r hr => hE r (List.mem_cons_of_mem _ hr)
    have h3 := ends_len (K.headS x)
    unfold edgesL at h2 ⊢
    rw [List.length_append, show ([0, 1114112] : List Int).length = 2 from rfl] at h2 ⊢
    rw [List.flatMap_cons, List.length_append, List.length_cons]
    omega
theorem two (W : World) (a b : Int) : L.Rd (W.alloc (.cells #[.int .i32 a, .int .i32 b] 21)) (.slice (some ⟨W.heap.size, 0, none⟩) 2 2) .i32 [a, b] := by
  refine ⟨_, _, rfl, by simp, fun _ => ⟨W.heap.size, 0, rfl, fun j x hj => ?_⟩⟩
  have e : (W.alloc (.cells #[.int .i32 a, .int .i32 b] 21)).heap[W.heap.size]? = some (.cells #[.int .i32 a, .int .i32 b] 21) := by
    show (W.heap.push _)[W.heap.size]? = _
    exact Array.getElem?_push_size
  match j, hj with
  | 0, hj => exact K.at_box e (by simpa using hj)
  | 1, hj => exact K.at_box e (by simpa using hj)
  | n + 2, hj => simp at hj
theorem own2 (w : World) : (w.alloc (.cells #[.int .i32 0, .int .i32 1114112] 21)).ownsRow w.heap.size 21 1 (.slice (some ⟨w.heap.size, 0, none⟩) 2 2) (edgesL []).length (Z.ints (edgesL [])) := by
  refine ⟨rfl, .inr ⟨w.heap.size, 2, #[.int .i32 0, .int .i32 1114112], rfl, Nat.le_refl _, ?_, Nat.le_refl _, by unfold maxLen; omega, rfl, rfl⟩⟩
  show (w.heap.push _)[w.heap.size]? = _
  exact Array.getElem?_push_size
end J

set_option maxHeartbeats 4000000 in
theorem jEdges_any (w : World) (v : Value) (l : List K.Rule) (R0 : V.Rus w v l) (hl : l.length ≤ 200) (hE : ∀ r ∈ l, K.ruleE r = 0) :
    Calls Tryz.prog 67 #[v] w fun e w' => ∃ (v' : Value) (c : List Int), e = .returned v' ∧ c.Pairwise (· < ·) ∧ (∀ y, y ∈ c ↔ y ∈ J.edgesL l) ∧ w'.ownsRow w.heap.size 21 1 v' c.length (Z.ints c) ∧ Below w.heap.size w w' := by
  have HR : Hid (V.Rus w v l) := R0
  have HE : Hid (∀ r ∈ l, K.ruleE r = 0) := hE
  obtain ⟨i0, hi, hz0, hz1, hz2⟩ := info_parts Tryz.infoI32
  obtain ⟨ao, cap, rfl⟩ := R0.len
  clear R0 hE
  go_enter Tryz.func67, Tryz.ntmps67
  go_wp2_with fail
  go_loopw [3, 11] (fun vo i wr => ∃ k : Nat, k ≤ l.length ∧ i = .int .i64 k ∧ Hid (wr.ownsRow w.heap.size 21 1 vo (J.edgesL (l.take k)).length (Z.ints (J.edgesL (l.take k))) ∧ Below w.heap.size w wr)) (fun _ i _ => l.length - (RowKit.intOf i).toNat)
  case atStart => exact ⟨0, Nat.zero_le _, rfl, J.own2 w, (Below.refl _ w).alloc (Nat.le_refl _) _⟩
  case round =>
    obtain ⟨k, hk, rfl, HO⟩ := hrel
    have hwr := HO.out.2.size
    by_cases hlt : k < l.length
    · obtain ⟨p, hp⟩ : ∃ x, l[k]? = some x := ⟨l[k], by simp [hlt]⟩
      obtain ⟨ba, oa, bo, bc, so, sc, ao2, ac, tt, tc, rfl, a0, a1, a2, a3, a4, a5, a6, hP⟩ := K.Rus.rule HR.out hp
      have lift : ∀ b o x, w.cell? ⟨b, o, none⟩ = some x → wr.cell? ⟨b, o, none⟩ = some x := fun b o x h => by rw [(L.bcell HO.out.2).1 b o (L.block_lt h)]; exact h
      replace a0 := lift _ _ _ a0
      replace a1 := lift _ _ _ a1
      replace a2 := lift _ _ _ a2
      replace a3 := lift _ _ _ a3
      replace a4 := lift _ _ _ a4
      replace a5 := lift _ _ _ a5
      replace a6 := lift _ _ _ a6
      have hep := HE.out p (List.mem_of_getElem? hp)
      have hsp := (K.ruleE_zero hep).2.2.2.1
      obtain ⟨s, hs⟩ : ∃ s, p.source[0]? = some s := ⟨p.source[0], by simp⟩
      have hhd := K.head_at hs
      have hok := K.head_ok hep
      rw [hhd] at hok
      have hlen := J.edgesL_len (l := l.take k) fun r hr => HE.out r (List.mem_of_mem_take hr)
      rw [List.length_take] at hlen
      have HF : Hid (J.edgesL (l.take (k + 1)) = J.edgesL (l.take k) ++ J.ends s) := by show _ = _; rw [J.edgesL_take hp, hhd]
      obtain ⟨bo', bc', so', sc', ao', ac', tt', tc', hv, _, hS, _⟩ := hP
      have hv2 := Value.agg.inj hv
      simp only [Array.mk.injEq, List.cons.injEq, Value.slice.injEq, true_and, and_true] at hv2
      obtain ⟨⟨rfl, rfl⟩, ⟨rfl, rfl⟩, ⟨rfl, rfl⟩, rfl, rfl⟩ := hv2
      obtain ⟨gb, go, s2, c2, rfl, hc0, hr0, _⟩ := hS.at hs
      rw [Nat.add_zero] at hc0
      have HRd : Hid (S.Rd w (.slice s2 s.length c2) s) := hr0
      replace hc0 := lift _ _ _ hc0
      have HNf : Hid (S.Nf 0 s) := hok.1
      have hcc : ∀ o, (wr.alloc o).cell? ⟨gb, go, none⟩ = some (.slice s2 s.length c2) := fun o => K.alloc_cell hc0 o
      obtain ⟨T, hT⟩ : ∃ T, T = J.edgesL (l.take k) := ⟨_, rfl⟩
      rw [← hT] at HF HO hlen
      have HOa : Hid (∀ o, (wr.alloc o).ownsRow w.heap.size 21 1 u3 T.length (Z.ints T) ∧ Below w.heap.size w (wr.alloc o) ∧ Below wr.heap.size wr (wr.alloc o)) := fun o => ⟨HO.out.1.alloc o, HO.out.2.alloc hwr o, (Below.refl _ wr).alloc (Nat.le_refl _) o⟩
      have hsl : s.length ≤ 200 := hok.2
      clear hp hep hs hhd hok hv hS hr0 hc0 hT lift
      obtain ⟨st, fi, be, sou, af, ta, cu⟩ := p
      simp only at a0 a1 a2 a3 a4 a5 a6 hsp
      go_wp2_with fail
      go_loopw [3, 20] (fun vo i wx => ∃ q : Nat, q ≤ s.length ∧ i = .int .i64 q ∧ Hid (wx.ownsRow w.heap.size 21 1 vo (T ++ J.ends (s.take q)).length (Z.ints (T ++ J.ends (s.take q))) ∧ Below w.heap.size w wx)) (fun _ i _ => s.length - (RowKit.intOf i).toNat)
      case atStart =>
        refine ⟨0, Nat.zero_le _, rfl, ?_, (HOa.out _).2.1⟩
        simp only [List.take_zero, J.ends, List.flatMap_nil, List.append_nil]
        exact (HOa.out _).1
      case round =>
        obtain ⟨q, hq, rfl, HQ⟩ := hrel
        have hw2 := HQ.out.2.size
        clear HOa hcc a0 a1 a2 a3 a4 a5 a6
        by_cases hqs : q < s.length
        · obtain ⟨x, hx⟩ : ∃ x, s[q]? = some x := ⟨s[q], by simp [hqs]⟩
          have hxr := HNf.out.mem (List.mem_of_getElem? hx)
          have HX : Hid (T ++ J.ends (s.take (q + 1)) = T ++ J.ends (s.take q) ++ [x.1, x.2 + 1]) := by show _ = _; rw [J.ends_take hx, List.append_assoc]
          obtain ⟨a9, c9, e9, _, hc9⟩ := HRd.out.below HQ.out.2 (Nat.le_refl _)
          cases e9
          obtain ⟨sb, sf, rfl, hcell⟩ := hc9 (by intro h; subst h; simp at hx)
          obtain ⟨y0, y1⟩ := hcell q x hx
          have hl3 := J.ends_len (s.take q)
          rw [List.length_take] at hl3
          have HBx : Hid (∀ o o', Below wr.heap.size wr ((wr.alloc o).alloc o')) := fun o o' => ((Below.refl _ wr).alloc (Nat.le_refl _) o).alloc (by simp) o'
          have HOx : Hid (∀ o o', ((wr.alloc o).alloc o').ownsRow w.heap.size 21 1 u3 (T ++ J.ends (s.take q)).length (Z.ints (T ++ J.ends (s.take q)))) := fun o o' => (HQ.out.1.alloc o).alloc o'
          have h63 : (T ++ J.ends (s.take q)).length + 2 ≤ 200000 := by rw [List.length_append]; omega
          obtain ⟨x1, x2⟩ := x
          simp only at hxr y0 y1 HX
          generalize hU : T ++ J.ends (s.take q) = U at HX HOx h63 HQ
          clear hU hl3
          have HQB : Hid (Below w.heap.size w wr) := HQ.out.2
          have hblk : Hid (∀ g, u3.ownBlock = some g → w.heap.size ≤ g) := fun g hg => by
            obtain ⟨_, ⟨rfl, _⟩ | ⟨g', cap', cur', rfl, hb', _⟩⟩ := HQ.out.1
            · cases hg
            · cases hg; exact hb'
          have HTw : Hid (∀ o, L.Rd ((wr.alloc o).alloc (.cells #[.int .i32 x1, .int .i32 (x2 + 1)] 21)) (.slice (some ⟨wr.heap.size + 1, 0, none⟩) 2 2) .i32 [x1, x2 + 1]) := fun o => by
            have := J.two (wr.alloc o) x1 (x2 + 1)
            rw [show (wr.alloc o).heap.size = wr.heap.size + 1 by simp] at this
            exact this
          obtain ⟨hx1, hx2, hx3⟩ := hxr
          clear HQ hcell hx hc9
          go_wp2_with (at_builtin; go_must (refine L.wpList_append_rd rfl _ _ 23 rfl w.heap.size 21 i0 .i32 4 Tryz.underlying23 hi hz0 hz1 hz2 _ _ _ rfl (HOx.out _ _) _ [x1, x2 + 1] rfl (HTw.out _) (by unfold maxLen; simp; omega) (by simp; omega) (by simp; omega) ?_; intro v' w4 own4 grown4))
          have HX4 : Hid (w4.ownsRow w.heap.size 21 1 v' (T ++ J.ends (s.take (q + 1))).length (Z.ints (T ++ J.ends (s.take (q + 1)))) ∧ Below w.heap.size w w4) := by
            refine ⟨?_, Below.grown (HQB.out.trans ((HBx.out _ _).mono hw2)) grown4 (by simp; omega) (fun j hj => hblk.out j hj)⟩
            rw [HX.out, List.length_append, Z.ints, List.map_append]
            exact own4
          go_roundw
          case rel => exact ⟨q + 1, by omega, by go_num, HX4.out⟩
          case measure => simp [RowKit.intOf]; omega
        · have hqe : q = s.length := by omega
          subst hqe
          rw [List.take_length, ← HF.out] at HQ
          go_wp2_with fail
          go_roundw
          case rel => exact ⟨k + 1, by omega, by go_num, HQ.out⟩
          case measure => simp [RowKit.intOf]; omega
    · have hke : k = l.length := by omega
      subst hke
      rw [List.take_length] at HO
      have hlen := J.edgesL_len HE.out
      have hne : J.edgesL l ≠ [] := by simp [J.edgesL]
      have hso := zsort_own wr w.heap.size u3 (J.edgesL l) HO.out.1 hne (by omega)
      have HSo : Hid (Calls Tryz.prog 78 #[u3] wr fun x w' => x = .returned (.tuple #[]) ∧ ∃ R : Array Int, R.size = (J.edgesL l).length ∧ Sort.SortedIn Sort.ltInt 0 R.size R ∧ (∀ x, x ∈ R.toList ↔ x ∈ J.edgesL l) ∧ w'.ownsRow w.heap.size 21 1 u3 (J.edgesL l).length (Z.ints R.toList) ∧ wr.grownBy w' u3.ownBlock) := hso
      have hblk : Hid (∀ g, u3.ownBlock = some g → w.heap.size ≤ g) := fun g hg => by
        obtain ⟨_, ⟨rfl, _⟩ | ⟨g', cap', cur', rfl, hb', _⟩⟩ := HO.out.1
        · cases hg
        · cases hg; exact hb'
      have hpos : 0 < (J.edgesL l).length := List.length_pos_iff.2 hne
      clear hso
      go_wp2_with fail
      go_at_call 78
      refine HSo.out.mono ?_
      rintro _ w2 ⟨rfl, R, hR, hS, hM, own2, gr2⟩
      have hB2 : Below w.heap.size w w2 := Below.grown HO.out.2 gr2 hwr (fun j hj => hblk.out j hj)
      rw [← hR] at own2
      have hco := zcompact_own w2 w.heap.size u3 R own2 (by omega) hS
      have HCo : Hid (Calls Tryz.prog 79 #[u3] w2 fun x w' => ∃ (v' : Value) (c : List Int), x = .returned v' ∧ c.Pairwise (· < ·) ∧ (∀ y, y ∈ c ↔ y ∈ R.toList) ∧ w'.ownsRow w.heap.size 21 1 v' c.length (Z.ints c) ∧ w2.grownBy w' u3.ownBlock ∧ v'.ownBlock = u3.ownBlock) := hco
      have HM : Hid (∀ x, x ∈ R.toList ↔ x ∈ J.edgesL l) := hM
      have HB2 : Hid (Below w.heap.size w w2) := hB2
      clear hco hM hB2 own2 gr2 HSo hS hR
      go_wp2_with fail
      go_at_call 79
      refine HCo.out.mono ?_
      rintro _ w3 ⟨v', c, rfl, hp, hm, own3, gr3, hv'⟩
      have HF : Hid (c.Pairwise (· < ·) ∧ (∀ y, y ∈ c ↔ y ∈ J.edgesL l) ∧ w3.ownsRow w.heap.size 21 1 v' c.length (Z.ints c) ∧ Below w.heap.size w w3) := ⟨hp, fun y => (hm y).trans (HM.out y), own3, Below.grown HB2.out gr3 HB2.out.size (fun j hj => hblk.out j hj)⟩
      clear hp hm own3 gr3 hv' HCo
      go_wp2_with fail
      go_ret
      exact ⟨v', c, rfl, HF.out⟩

end Go.Proofs.YtlmmjefplbcapaaGreat

/-
  Slices of runes, cut (no more than the library's and Lib's).
-/
namespace Go.Proofs.YtlmmjefplbcapaaGreat
open Go.RowKit
set_option maxRecDepth 20000
set_option linter.unusedSimpArgs false
set_option linter.unusedVariables false

namespace K
/-- a text's slice, cut -/
theorem rd_take {w : World} {xo : Option Addr} {xc : Nat} {t : List Int} (h : L.Rd w (.slice xo t.length xc) .i32 t) {n : Nat} (hn : n ≤ t.length) : L.Rd w (.slice xo n xc) .i32 (t.take n) := by
  obtain ⟨ao, cap, he, hz, hc⟩ := h
  cases he
  refine ⟨xo, xc, by rw [List.length_take, Nat.min_eq_left hn], hz, fun hne => ?_⟩
  obtain ⟨b, off, rfl, hcell⟩ := hc (by intro h; subst h; simp at hne)
  refine ⟨b, off, rfl, fun j z hj => hcell j z ?_⟩
  rw [List.getElem?_take] at hj
  split at hj
  · exact hj
  · cases hj
theorem rd_drop {w : World} {xo : Option Addr} {xc : Nat} {t : List Int} (h : L.Rd w (.slice xo t.length xc) .i32 t) {d : Nat} (hd : d ≤ t.length) (hcap : t.length ≤ xc) : L.Rd w (.slice (if xc = d then xo else Option.map (fun x => x.add d) xo) (t.length - d) (xc - d)) .i32 (t.drop d) := by
  obtain ⟨ao, cap, he, hz, hc⟩ := h
  cases he
  refine ⟨_, _, by rw [List.length_drop], fun e => ?_, fun hne => ?_⟩
  · cases xo with
    | none => rw [hz rfl]; simp
    | some a => split at e <;> cases e
  · have hp := List.length_pos_iff.2 hne
    rw [List.length_drop] at hp
    obtain ⟨b, off, rfl, hcell⟩ := hc (by intro h; subst h; simp at hp)
    rw [if_neg (by omega)]
    refine ⟨b, off + d, by rw [Option.map_some, L.addr_add], fun j z hj => ?_⟩
    rw [List.getElem?_drop] at hj
    rw [Nat.add_assoc]
    exact hcell _ z hj
end K

theorem K.slice_upto (xo : Option Addr) (N xc n : Nat) (h : n ≤ xc) (w' : World) : (Instr.slice 23 (.slice xo N xc) none (some (.int .i64 (n : Int))) none).run Tryz.prog w' = .ok (.slice xo n xc) w' := by
  have a1 : (n : Int) ≤ xc := by omega
  have a0 : (0 : Int) ≤ n := by omega
  go_simp
theorem K.slice_from (xo : Option Addr) (N xc D : Nat) (h : D ≤ N) (hc : N ≤ xc) (w' : World) : (Instr.slice 23 (.slice xo N xc) (some (.int .i64 (D : Int))) none none).run Tryz.prog w' = .ok (.slice (if xc = D then xo else Option.map (fun x => x.add D) xo) (N - D) (xc - D)) w' := by
  have a1 : (D : Int) ≤ N := by omega
  have a2 : (N : Int) ≤ xc := by omega
  have a0 : (0 : Int) ≤ D := by omega
  go_simp

end Go.Proofs.YtlmmjefplbcapaaGreat
