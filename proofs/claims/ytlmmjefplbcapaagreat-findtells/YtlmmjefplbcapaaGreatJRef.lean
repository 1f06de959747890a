/-
  The closure within the document's Edges: one number is put into a rising list.
-/
import Derived.Test.YtlmmjefplbcapaaGreatSEdgeN
import Derived.Test.YtlmmjefplbcapaaGreatSEdgeA
import Derived.Test.YtlmmjefplbcapaaGreatSEdgeB
import Derived.Test.YtlmmjefplbcapaaGreatSEdgeC
import Derived.Test.YtlmmjefplbcapaaGreatJRefM
import Derived.Shelf.Abstract
import Derived.Test.YtlmmjefplbcapaaGreatSStepO
import Derived.Test.YtlmmjefplbcapaaGreatQCheckR
import Derived.Deep.Cut
import Derived.Deep.DeepCutAuto
namespace Go.Proofs.YtlmmjefplbcapaaGreat
open Go.RowKit

theorem put_any (W : World) (B bo g cap : Nat) (zs : List Int) (r : Int) (X : S.Bx W bo 23 (.slice (some ⟨g, 0, none⟩) zs.length cap)) (own : W.ownsRow B 21 1 (.slice (some ⟨g, 0, none⟩) zs.length cap) zs.length (zs.map (Value.int .i32))) (hbo : bo < W.heap.size) (hB : B ≤ W.heap.size)
    (hl : zs.length ≤ 1099511627776) :
    Calls Tryz.prog 44 #[.int .i32 r, .pointer (some ⟨bo, 0, none⟩)] W fun e w' => e = .returned (.tuple #[]) ∧ ∃ g' cap', S.Bx w' bo 23 (.slice (some ⟨g', 0, none⟩) (S.insF zs r).length cap') ∧ w'.ownsRow B 21 1 (.slice (some ⟨g', 0, none⟩) (S.insF zs r).length cap') (S.insF zs r).length ((S.insF zs r).map (Value.int .i32)) ∧ W.grownBy w' (some bo) := by
  by_cases h : 1114111 < r ∨ zs[S.lowF zs r]? = some r
  · exact put_no W B bo g cap zs r X own hbo hB hl h
  · by_cases h1 : S.lowF zs r < zs.length
    · exact put_mid W B bo g cap zs r X own hbo hB hl ⟨h, h1⟩
    · have h2 : S.lowF zs r = zs.length := by have := S.lowF_le zs r; omega
      by_cases h3 : cap = zs.length
      · exact put_full W B bo g cap zs r X own hbo hB hl ⟨h, h2, h3⟩
      · exact put_room W B bo g cap zs r X own hbo hB hl ⟨h, h2, h3⟩

end Go.Proofs.YtlmmjefplbcapaaGreat

/-
  What the document's Edges answers of slices of spans, walked.
-/
namespace Go.Proofs.YtlmmjefplbcapaaGreat
open Go.RowKit

/-- the box of the edges, with what it holds -/
structure Holds (w wr : World) (bo : Nat) (D : List Int) : Prop where
  box : ∃ g cap, S.Bx wr bo 23 (.slice (some ⟨g, 0, none⟩) (D.foldl S.insF [0]).length cap) ∧ wr.ownsRow w.heap.size 21 1 (.slice (some ⟨g, 0, none⟩) (D.foldl S.insF [0]).length cap) (D.foldl S.insF [0]).length ((D.foldl S.insF [0]).map (Value.int .i32))
  below : Below w.heap.size w wr
  lt : bo < wr.heap.size

theorem Holds.alloc {w wr : World} {bo : Nat} {D : List Int} (h : Holds w wr bo D) (o : Obj) : Holds w (wr.alloc o) bo D := by
  obtain ⟨g, cap, x, own⟩ := h.box
  have hb : Below wr.heap.size wr (wr.alloc o) := (Below.refl _ wr).alloc (Nat.le_refl _) _
  exact ⟨⟨g, cap, x.below hb h.lt, own.alloc o⟩, h.below.alloc h.below.size o, by have := h.lt; simp; omega⟩

theorem Holds.len {w wr : World} {bo : Nat} {D : List Int} (_ : Holds w wr bo D) : (D.foldl S.insF [0]).length ≤ 1 + D.length := by
  have := (S.fold_spec D [0] (by simp)).2.2
  simpa using this

theorem put_holds {w wr : World} {bo : Nat} {D : List Int} (h : Holds w wr bo D) (hbo : w.heap.size ≤ bo) (hl : ∀ d ∈ D, 0 ≤ d) (r : Int) :
    Calls Tryz.prog 44 #[.int .i32 r, .pointer (some ⟨bo, 0, none⟩)] wr fun e w' => e = .returned (.tuple #[]) ∧ Holds w w' bo (D ++ [r]) ∧ wr.grownBy w' (some bo) := by
  obtain ⟨g, cap, x, own⟩ := h.box
  have hlen := S.fold_len D hl
  refine (put_any wr w.heap.size bo g cap _ r x own h.lt h.below.size (by omega)).mono ?_
  rintro e w' ⟨rfl, g', cap', x', own', hg⟩
  have e : (D ++ [r]).foldl S.insF [0] = S.insF (D.foldl S.insF [0]) r := by rw [List.foldl_append]; rfl
  refine ⟨rfl, ⟨⟨g', cap', by rw [e]; exact x', by rw [e]; exact own'⟩, Below.grown h.below hg h.below.size (fun k hk => by cases hk; exact hbo), Nat.lt_of_lt_of_le h.lt hg.size⟩, hg⟩

theorem edgesOf_take {l : List S.Sp} {j : Nat} {x : S.Sp} (hx : l[j]? = some x) : S.edgesOf (l.take (j + 1)) = S.edgesOf (l.take j) ++ [x.1] ++ [x.2 + 1] := by
  unfold S.edgesOf
  rw [List.take_add_one, hx, List.flatMap_append]
  simp
theorem edges_take {ls : List (List S.Sp)} {i : Nat} {l : List S.Sp} (hl : ls[i]? = some l) : (ls.take (i + 1)).flatMap S.edgesOf = (ls.take i).flatMap S.edgesOf ++ S.edgesOf l := by
  rw [List.take_add_one, hl, List.flatMap_append]; simp
theorem edgesOf_len (l : List S.Sp) : (S.edgesOf l).length = 2 * l.length := by
  unfold S.edgesOf
  induction l with
  | nil => rfl
  | cons x l ih => simp only [List.flatMap_cons, List.length_append, ih, List.length_cons]; simp; omega

set_option maxHeartbeats 2000000 in
theorem edges_all (w : World) (ao : Option Addr) (cp b : Nat) (vs : List Value) (hao : vs ≠ [] → ao = some ⟨b, 0, none⟩) (ls : List (List S.Sp)) (hlen : vs.length = ls.length) (hl : ls.length ≤ 1000) (hv : ∀ (i : Nat) v, vs[i]? = some v → w.cell? ⟨b, i, none⟩ = some v)
    (hR : ∀ (i : Nat) v l, vs[i]? = some v → ls[i]? = some l → S.Rd w v l) (hb : ∀ l ∈ ls, l.any S.bad = false) (hsz : ∀ l ∈ ls, l.length ≤ 17592186043904) :
    Calls Tryz.prog 32 #[.slice ao vs.length cp] w fun e w' => ∃ v, e = .returned v ∧ L.Rd w' v .i32 (S.edgesF ls) ∧ Below w.heap.size w w' := by
  have HR : Hid _ := hR
  have HV : Hid _ := hv
  have HLen : Hid (vs.length = ls.length) := hlen
  have HBad : Hid (∀ l ∈ ls, l.any S.bad = false) := hb
  have HSz : Hid (∀ l ∈ ls, l.length ≤ 17592186043904) := hsz
  have hl3 : vs.length ≤ 1000 := by omega
  clear hR hv hlen hb hsz
  have e55 : ∀ args w, (callFunc 44 args).run Tryz.prog w = .ok (.enter 44 args) w := enters_of Tryz.func44 (by kernel_rfl) rfl
  go_enter Tryz.func32, Tryz.ntmps32
  go_wp2
  have HH0 : Hid (Holds w ((w.alloc (.cells #[.int .i32 0] 21)).alloc (.cells #[.slice (some ⟨w.heap.size, 0, none⟩) 1 1] 23)) (w.heap.size + 1) []) := by
    have x := S.Bx.new (w.alloc (.cells #[.int .i32 0] 21)) 23 (.slice (some ⟨w.heap.size, 0, none⟩) 1 1)
    rw [World.size_alloc] at x
    have own := (World.ownsRow_lit (base := w.heap.size) (e := 21) (size := 1) w #[.int .i32 0] 1 (Nat.le_refl _) (by decide) rfl).alloc (.cells #[.slice (some ⟨w.heap.size, 0, none⟩) 1 1] 23)
    exact ⟨⟨w.heap.size, 1, x, by simpa using own⟩, ((Below.refl _ w).alloc (Nat.le_refl _) _).alloc (by simp) _, by simp⟩
  have hs0 : ((w.alloc (.cells #[.int .i32 0] 21)).alloc (.cells #[.slice (some ⟨w.heap.size, 0, none⟩) 1 1] 23)).heap.size = w.heap.size + 2 := by simp
  have HBW0 : Hid (Below w.heap.size w ((w.alloc (.cells #[.int .i32 0] 21)).alloc (.cells #[.slice (some ⟨w.heap.size, 0, none⟩) 1 1] 23))) := HH0.out.below
  clear hs0
  go_loopw [13] (fun iv wr => ∃ i : Nat, i ≤ vs.length ∧ iv = .int .i64 i ∧ Hid (Holds w wr (w.heap.size + 1) ((ls.take i).flatMap S.edgesOf))) (fun iv _ => vs.length - (intOf iv).toNat)
  case atStart => exact ⟨0, Nat.zero_le _, rfl, by simpa using HH0⟩
  case round =>
    obtain ⟨i, hi, rfl, HI⟩ := hrel
    by_cases hlt : i < vs.length
    · obtain rfl := hao (by intro h; rw [h] at hlt; simp at hlt)
      obtain ⟨v, hv⟩ : ∃ v, vs[i]? = some v := ⟨vs[i], by simp [hlt]⟩
      obtain ⟨l, hl'⟩ : ∃ l, ls[i]? = some l := ⟨ls[i]'(by rw [← HLen.out]; exact hlt), by simp [show i < ls.length by rw [← HLen.out]; exact hlt]⟩
      have c1 := HV.out i v hv
      have hbl := L.block_lt c1
      rw [← HI.out.below.cell (p := ⟨b, i, none⟩) hbl] at c1
      have R := HR.out i v l hv hl'
      have hlb := HSz.out l (List.mem_of_getElem? hl')
      have hbad := HBad.out l (List.mem_of_getElem? hl')
      have HBl : Hid (l.any S.bad = false) := hbad
      have HL : Hid (ls[i]? = some l) := hl'
      have hD : Hid (∀ d ∈ (ls.take i).flatMap S.edgesOf, 0 ≤ d) := fun d hd => by
        obtain ⟨m, hm, hd⟩ := List.mem_flatMap.1 hd
        exact S.edges_pos (HBad.out m (List.mem_of_mem_take hm)) d hd
      generalize hDD : (ls.take i).flatMap S.edgesOf = D at *
      have HD : Hid ((ls.take i).flatMap S.edgesOf = D) := hDD
      obtain ⟨ao, cap, rfl, hn, hc⟩ := R
      clear hv hl' hDD hn hbad
      go_wp2
      go_loopw [19] (fun jv wr2 => ∃ j : Nat, j ≤ l.length ∧ jv = .int .i64 j ∧ Hid (Holds w wr2 (w.heap.size + 1) (D ++ S.edgesOf (l.take j)))) (fun jv _ => l.length - (intOf jv).toNat)
      case atStart => exact ⟨0, Nat.zero_le _, rfl, by simpa [S.edgesOf] using HI⟩
      case round =>
        obtain ⟨j, hj, rfl, HJ⟩ := hrel
        by_cases hltj : j < l.length
        · obtain ⟨bb, off, rfl, hcell⟩ := hc (by intro h; subst h; simp at hltj)
          obtain ⟨x, hx⟩ : ∃ x, l[j]? = some x := ⟨l[j], by simp [hltj]⟩
          have c0 := hcell j x hx
          have hb := L.block_lt c0.1
          have d1 := c0.1
          have d2 := c0.2
          rw [← HJ.out.below.cell (p := ⟨bb, _, none⟩) hb] at d1 d2
          have hok := S.bad_false.1 (by simpa using (List.any_eq_false.1 HBl.out) x (List.mem_of_getElem? hx))
          have HT : Hid _ := edgesOf_take hx
          have hE : Hid (∀ d ∈ D ++ S.edgesOf (l.take j), 0 ≤ d) := fun d hd => by
            rcases List.mem_append.1 hd with hd | hd
            · exact hD.out d hd
            · refine S.edges_pos (l := l.take j) (List.any_eq_false.2 fun y hy => (List.any_eq_false.1 HBl.out) y (List.mem_of_mem_take hy)) d hd
          generalize hEE : D ++ S.edgesOf (l.take j) = E at *
          have HEE : Hid (D ++ S.edgesOf (l.take j) = E) := hEE
          have HJa : Hid (∀ o, Holds w (World.alloc _ o) (w.heap.size + 1) E) := fun o => HJ.out.alloc o
          have hlt3 := HJ.out.lt
          obtain ⟨x1, x2⟩ := x
          simp only at d1 d2 hok HT
          clear c0 hx hcell hEE
          have hp1 := put_holds (HJa.out (.cells #[.int .i32 x1, .int .i32 x2] 86)) (by omega) hE.out x1
          go_wp2_with fail
          refine hp1.mono ?_
          clear hp1
          rintro e w3 ⟨rfl, H3, G3⟩
          have HQ := S.boxed (wr := wr) (t := 86) (a := .int .i32 x1) (b := .int .i32 x2) (Below.refl _ _)
          have f2 := HQ.1.2
          have hlt4 := HQ.2.2.1
          have f3 := f2
          rw [← World.cell?_of_block (w' := w3) (G3.block _ hlt4 (by simp; omega))] at f3
          have HH3 : Hid (Holds w w3 (w.heap.size + 1) (E ++ [x1])) := H3
          clear HQ f2 H3 G3
          have hp2 := put_holds HH3.out (by omega) (fun d hd => by rcases List.mem_append.1 hd with hd | hd; exact hE.out d hd; simp at hd; omega) (x2 + 1)
          go_wp2_with fail
          refine hp2.mono ?_
          clear hp2
          rintro e w4 ⟨rfl, H4, G4⟩
          have HH4 : Hid (Holds w w4 (w.heap.size + 1) (E ++ [x1] ++ [x2 + 1])) := H4
          clear H4 G4
          go_wp2
          go_roundw
          case rel =>
            refine ⟨j + 1, by omega, by go_num, ?_⟩
            show Holds _ _ _ _
            rw [HT.out, ← List.append_assoc, ← List.append_assoc, HEE.out]
            exact HH4.out
          case measure => simp [intOf]; omega
        · have hje : l.take j = l := List.take_of_length_le (by omega)
          have HN : Hid (Holds w wr (w.heap.size + 1) ((ls.take (i + 1)).flatMap S.edgesOf)) := by
            have h := HJ.out
            rw [hje] at h
            show Holds _ _ _ _
            rw [edges_take HL.out, HD.out]
            exact h
          clear hje
          go_wp2
          go_roundw
          case rel => exact ⟨i + 1, by omega, by go_num, HN⟩
          case measure => simp [intOf]; omega
    · have hie : ls.take i = ls := List.take_of_length_le (by rw [← HLen.out]; omega)
      have h := HI.out
      rw [hie] at h
      obtain ⟨g, cap, x, own⟩ := h.box
      have cx := x.cell
      have HO : Hid _ := own
      have HBl : Hid (Below w.heap.size w wr) := h.below
      clear own x h hie
      go_wp2
      go_ret
      exact ⟨_, rfl, L.Rd.of_owns HO.out, HBl.out⟩

theorem edges_any (w : World) (b : Nat) (vs : List Value) (ls : List (List S.Sp)) (hlen : vs.length = ls.length) (hl : ls.length ≤ 3) (hv : ∀ (i : Nat) v, vs[i]? = some v → w.cell? ⟨b, i, none⟩ = some v)
    (hR : ∀ (i : Nat) v l, vs[i]? = some v → ls[i]? = some l → S.Rd w v l) (hb : ∀ l ∈ ls, l.any S.bad = false) (hsz : ∀ l ∈ ls, l.length ≤ 17592186043904) :
    Calls Tryz.prog 32 #[.slice (some ⟨b, 0, none⟩) vs.length vs.length] w fun e w' => ∃ v, e = .returned v ∧ L.Rd w' v .i32 (S.edgesF ls) ∧ Below w.heap.size w w' :=
  edges_all w _ _ b vs (fun _ => rfl) ls hlen (by omega) hv hR hb hsz

end Go.Proofs.YtlmmjefplbcapaaGreat

/-
  The document's Compile.
-/
namespace Go.Proofs.YtlmmjefplbcapaaGreat
open Go.RowKit Go.Shelf
set_option maxRecDepth 20000
set_option linter.unusedSimpArgs false
set_option linter.unusedVariables false

theorem Tryz.infoSetJ : (Tryz.prog.info? 70).map (fun i => (i.zero, i.size, i.bytes)) = some (some (.slice none 0 0), 1, 24) := by kernel_rfl

theorem J.wpl_run {t : TypeId} {w : World} {ops : Array Oper} {rest : List Oper} {o : Oper} {a : Act} {Q : Exit → Act → World → Prop} (hgd : o.guard = none) (s x : Operand)
    (ho : o.op = .call { callee := .builtin .append, args := #[s, x], argTypes := #[t, t] }) (v vx v' : Value) (w' : World) (hs : a.eval s = v) (hx : a.eval x = vx)
    (hrun : (Builtin.append_ #[t, t] o.type #[v, vx]).run Tryz.prog w = .ok v' w') (h : wpList Tryz.prog ops Q rest (a.put o.dst v') w') : wpList Tryz.prog ops Q (o :: rest) a w :=
  wpList_plain hgd fun K hK => by
    unfold Oper.wp
    simp [execOp, ho, resolve, invoke, builtin, hs, hx, hrun, Result.andThen]
    exact hK _ _ h

/-- the sets with which rules begin, one after the other -/
def J.Fst (w : World) (l : List K.Rule) (us : List Value) : Prop := us.length = l.length ∧ ∀ (i : Nat) u r, us[i]? = some u → l[i]? = some r → S.Rd w u (K.headS r)

set_option maxHeartbeats 8000000 in
theorem rCompile_any (w : World) (v : Value) (l : List K.Rule) (R0 : V.Rus w v l) :
    Calls Tryz.prog 20 #[v] w fun e w' => ∃ (v' : Value) (o : List J.Hd × Int × Int), J.Comp l o ∧ e = .returned (.tuple #[v', .agg #[.int .i64 o.2.1, .int .i64 o.2.2]]) ∧ J.Own w.heap.size w' v' o.1 ∧ Below w.heap.size w w' := by
  have HA : Hid (∀ o, Below w.heap.size w (w.alloc o)) := fun o => (Below.refl _ w).alloc (Nat.le_refl _) o
  have HC : Hid (∀ o, Calls Tryz.prog 31 #[v] (w.alloc o) fun e w' => e = .returned (.agg #[.int .i64 (K.rulesF l).1, .int .i64 (K.rulesF l).2]) ∧ Below (w.alloc o).heap.size (w.alloc o) w') := fun o => rWrong8_any _ _ l (R0.below (HA.out o))
  have HE : Hid ((K.rulesF l).1 = 0 → l.length ≤ 200 ∧ ∀ r ∈ l, K.ruleE r = 0) := fun h => ⟨(K.rulesF_zero h).1, (K.rulesF_zero h).2.1⟩
  have HR : Hid (V.Rus w v l) := R0
  have HN : Hid ((K.rulesF l).1 ≠ 0 → J.Comp l ([], K.rulesF l)) := fun h => .inl ⟨h, rfl⟩
  have HY : Hid ((K.rulesF l).1 = 0 → ∀ c, J.Cuts l c → ∀ o, ((400 < c.length - 1 ∧ o = ([], 5, 0)) ∨ (c.length - 1 ≤ 400 ∧ o = (J.heads (J.begins l) c (c.length - 1), 0, 0))) → J.Comp l o) := fun h c hc o ho => .inr ⟨h, c, hc, hc.two, ho⟩
  obtain ⟨ao, cap, rfl⟩ := R0.len
  obtain ⟨⟨e1, e2⟩, he⟩ : ∃ o, K.rulesF l = o := ⟨_, rfl⟩
  rw [he] at HC HE HN HY
  simp only at HC HE HN HY
  clear he R0
  go_enter Tryz.func20, Tryz.ntmps20
  go_wp2_with fail
  refine (HC.out _).mono ?_
  rintro e w1 ⟨rfl, b1⟩
  obtain ⟨h1, B1, s1⟩ := K.one_box b1
  have HB1 : Hid (Below w.heap.size w w1) := B1
  have HX1 : Hid (w1.heap[w.heap.size]? = some (.cells #[.int .i64 0, .int .i64 0] 27)) := h1
  obtain ⟨x0, x1, f0, f1⟩ := K.box2 h1
  have k0 : ∀ o, (w1.alloc o).cell? ⟨w.heap.size, 0, none⟩ = some (.int .i64 0) := fun o => K.alloc_cell x0 o
  have k1 : ∀ o, (w1.alloc o).cell? ⟨w.heap.size, 1, none⟩ = some (.int .i64 0) := fun o => K.alloc_cell x1 o
  have g0 : ∀ o, (w1.alloc o).frozen? ⟨w.heap.size, 0, none⟩ = false := fun o => K.alloc_free h1 o 0
  have g1 : ∀ o, (w1.alloc o).frozen? ⟨w.heap.size, 1, none⟩ = false := fun o => K.alloc_free h1 o 1
  have HB2 : Hid (∀ o, Below w.heap.size w (w1.alloc o)) := fun o => HB1.out.alloc (by omega) o
  clear b1 B1 HC x0 x1 f0 f1 h1
  by_cases q : e1 = 0
  · subst q
    obtain ⟨hl, hE⟩ := HE.out rfl
    have HE2 : Hid (∀ r ∈ l, K.ruleE r = 0) := hE
    have HY2 : Hid (∀ c, J.Cuts l c → ∀ o, ((400 < c.length - 1 ∧ o = ([], 5, 0)) ∨ (c.length - 1 ≤ 400 ∧ o = (J.heads (J.begins l) c (c.length - 1), 0, 0))) → J.Comp l o) := HY.out rfl
    obtain ⟨i0, hi, hz0, hz1, hz2⟩ := info_parts Tryz.infoSetJ
    clear hE HE HN HY
    obtain ⟨X, hX⟩ : ∃ X, X = w1.alloc (.cells #[.int .i64 0, .int .i64 e2] 27) := ⟨_, rfl⟩
    have HXX : Hid (X = w1.alloc (.cells #[.int .i64 0, .int .i64 e2] 27)) := hX
    have HBX : Hid (Below w.heap.size w X) := by show Below _ _ _; rw [hX]; exact HB2.out _
    have hXs : w.heap.size < X.heap.size := by rw [hX]; simp; omega
    have HXb : Hid (X.heap[w.heap.size]? = some (.cells #[.int .i64 0, .int .i64 0] 27)) := by
      show X.heap[w.heap.size]? = _
      rw [hX, Below.heap_alloc w1 _ w.heap.size (by omega)]; exact HX1.out
    clear hX k0 k1 g0 g1
    go_wp2_with fail
    go_loopw [5, 20] (fun vo i wr => ∃ k : Nat, k ≤ l.length ∧ i = .int .i64 k ∧ ∃ us : List Value, Hid (wr.ownsRow X.heap.size 70 1 vo us.length us ∧ J.Fst w (l.take k) us ∧ Below X.heap.size X wr)) (fun _ i _ => l.length - (RowKit.intOf i).toNat)
    case atStart => exact ⟨0, Nat.zero_le _, rfl, [], World.ownsRow_nil _ _ _ _, ⟨rfl, fun i u r h => by simp at h⟩, by rw [← HXX.out]; exact Below.refl _ _⟩
    case round =>
      obtain ⟨k, hk, rfl, us, HO⟩ := hrel
      have hwr := HO.out.2.2.size
      by_cases hlt : k < l.length
      · obtain ⟨p, hp⟩ : ∃ x, l[k]? = some x := ⟨l[k], by simp [hlt]⟩
        have HBw : Hid (Below w.heap.size w wr) := HBX.out.trans (HO.out.2.2.mono (by omega))
        obtain ⟨ba, oa, bo, bc, so, sc, ao2, ac, tt, tc, rfl, a0, a1, a2, a3, a4, a5, a6, hP⟩ := K.Rus.rule HR.out hp
        have lift : ∀ b o x, w.cell? ⟨b, o, none⟩ = some x → wr.cell? ⟨b, o, none⟩ = some x := fun b o x h => by rw [(L.bcell HBw.out).1 b o (L.block_lt h)]; exact h
        replace a3 := lift _ _ _ a3
        have hep := HE2.out p (List.mem_of_getElem? hp)
        have hsp := (K.ruleE_zero hep).2.2.2.1
        obtain ⟨s, hs⟩ : ∃ s, p.source[0]? = some s := ⟨p.source[0], by simp⟩
        have hhd := K.head_at hs
        obtain ⟨bo', bc', so', sc', ao', ac', tt', tc', hv, _, hS, _⟩ := hP
        have hv2 := Value.agg.inj hv
        simp only [Array.mk.injEq, List.cons.injEq, Value.slice.injEq, true_and, and_true] at hv2
        obtain ⟨⟨rfl, rfl⟩, ⟨rfl, rfl⟩, ⟨rfl, rfl⟩, rfl, rfl⟩ := hv2
        obtain ⟨gb, go, s2, c2, rfl, hc0, hr0, _⟩ := hS.at hs
        rw [Nat.add_zero] at hc0
        replace hc0 := lift _ _ _ hc0
        have HFs : Hid (J.Fst w (l.take (k + 1)) (us ++ [.slice s2 s.length c2])) := by
          obtain ⟨h1, h2⟩ := HO.out.2.1
          refine ⟨by rw [List.length_append, h1, List.take_add_one, hp]; simp, fun i u r hu hr => ?_⟩
          rw [List.getElem?_take] at hr
          split at hr
          · rename_i hik
            rw [List.getElem?_append] at hu
            split at hu
            · rename_i hiu
              refine h2 i u r hu ?_
              rw [List.getElem?_take, if_pos (by rw [h1, List.length_take] at hiu; omega)]
              exact hr
            · rename_i hiu
              have hik2 : i = k := by rw [h1, List.length_take] at hiu; omega
              subst hik2
              have h3 : us.length = i := by rw [h1, List.length_take]; omega
              rw [h3, Nat.sub_self] at hu
              simp at hu
              subst hu
              rw [hp] at hr
              cases hr
              rw [hhd]
              exact hr0
          · cases hr
        have hul : us.length ≤ 200 := by have := HO.out.2.1.1; rw [List.length_take] at this; omega
        have HOa : Hid (∀ o, (wr.alloc o).ownsRow X.heap.size 70 1 u5 us.length us) := fun o => HO.out.1.alloc o
        have HBa : Hid (∀ o, Below X.heap.size X (wr.alloc o)) := fun o => HO.out.2.2.alloc hwr o
        have hblk : Hid (∀ g, u5.ownBlock = some g → X.heap.size ≤ g) := fun g hg => by
          obtain ⟨_, ⟨rfl, _⟩ | ⟨g', cap', cur', rfl, hb', _⟩⟩ := HO.out.1
          · cases hg
          · cases hg; exact hb'
        clear hp hep hs hhd hv hS hr0 lift a0 a1 a2 a4 a5 a6 HO
        obtain ⟨st, fi, be, sou, af, ta, cu⟩ := p
        simp only at a3 hsp
        go_wp2_with (at_builtin; go_must (refine wpList_append_own _ rfl _ _ 53 rfl X.heap.size 70 i0 (.slice none 0 0) 1 24 Tryz.underlying53 hi hz0 hz1 hz2 rfl (by decide) _ _ _ rfl (HOa.out _) ⟨wr.heap.size, 0, none⟩ 1 1 [.slice s2 s.length c2] rfl rfl (cell_one_new _ _ _) (fun x hx => by simp at hx; subst hx; rfl) (by unfold maxLen; omega) (by omega) (by simp; omega) ?_; intro v' w4 hown' hgrow4 hnil4))
        have HX4 : Hid (w4.ownsRow X.heap.size 70 1 v' (us ++ [Value.slice s2 s.length c2]).length (us ++ [Value.slice s2 s.length c2]) ∧ Below X.heap.size X w4) := ⟨by rw [List.length_append]; exact hown', Below.grown (HBa.out _) hgrow4 (by simp; omega) (fun j hj => hblk.out j hj)⟩
        go_roundw
        case rel => exact ⟨k + 1, by omega, by go_num, _, HX4.out.1, HFs.out, HX4.out.2⟩
        case measure => simp [RowKit.intOf]; omega
      · have hke : k = l.length := by omega
        subst hke
        rw [List.take_length] at HO
        have HBw : Hid (Below w.heap.size w wr) := HBX.out.trans (HO.out.2.2.mono (by omega))
        obtain ⟨hc, hc0⟩ := J.cuts_of HE2.out
        have hul : us.length = l.length := HO.out.2.1.1
        obtain ⟨uo, uc, g, rfl, hug, huv⟩ : ∃ uo uc g, u5 = .slice uo us.length uc ∧ (us ≠ [] → uo = some ⟨g, 0, none⟩) ∧ ∀ (i : Nat) v, us[i]? = some v → wr.cell? ⟨g, i, none⟩ = some v := by
          have h := HO.out.1
          obtain ⟨h1, ⟨rfl, h0⟩ | ⟨g, k, cur, rfl, hb, hx, hn, hm, hs, ht⟩⟩ := h
          · have := List.length_eq_zero_iff.1 h0
            subst this
            exact ⟨none, 0, 0, rfl, fun h => absurd rfl h, fun i v h => by simp at h⟩
          · refine ⟨_, k, g, rfl, fun _ => rfl, fun i v hv => ?_⟩
            have hlt' := (List.getElem?_eq_some_iff.1 hv).1
            rw [HO.out.1.cellAt i (by omega)]
            exact hv
        have hbad : ∀ s ∈ l.map K.headS, s.any S.bad = false := fun s hs => by
          obtain ⟨r, hr, rfl⟩ := List.mem_map.1 hs
          rw [List.any_eq_false]
          intro x hx
          have := S.bad_false.2 ((K.head_ok (HE2.out r hr)).1.mem hx)
          simp [this]
        have hEd := edges_all wr uo uc g us hug (l.map K.headS) (by rw [List.length_map]; exact hul) (by rw [List.length_map]; omega) huv
          (fun i v s hv hs => by
            rw [List.getElem?_map] at hs
            cases hr : l[i]? with
            | none => rw [hr] at hs; cases hs
            | some r =>
              rw [hr] at hs
              cases hs
              exact (HO.out.2.1.2 i v r hv hr).below HBw.out (Nat.le_refl _)) hbad
          (fun s hs => by
            obtain ⟨r, hr, rfl⟩ := List.mem_map.1 hs
            have := (K.head_ok (HE2.out r hr)).2
            omega)
        obtain ⟨D, hD⟩ : ∃ D, D = S.edgesF (l.map K.headS) := ⟨_, rfl⟩
        rw [← hD] at hEd hc hc0
        have HEd : Hid (Calls Tryz.prog 32 #[.slice uo us.length uc] wr fun e w' => ∃ dp dc, e = .returned (.slice dp D.length dc) ∧ L.Rd w' (.slice dp D.length dc) .i32 D ∧ Below wr.heap.size wr w') := by
          refine hEd.mono ?_
          rintro e w' ⟨v', h1, h2, h3⟩
          obtain ⟨dp, dc, rfl, _⟩ := id h2
          exact ⟨dp, dc, h1, h2, h3⟩
        have HCu : Hid (J.Cuts l (D ++ [1114112])) := hc
        have hDl : D.length ≤ 1114112 := by rw [hD]; exact S.edgesF_len hbad
        have hxw := K.blk_below HXb.out HO.out.2.2
        have HXw : Hid (wr.heap[w.heap.size]? = some (.cells #[.int .i64 0, .int .i64 0] 27)) := hxw
        clear hEd hbad hug huv hul hD HO hc hc0 hxw
        go_wp2_with fail
        go_at_call 32
        refine HEd.out.mono ?_
        rintro e Y ⟨dp, dc, rfl, rD, bY⟩
        have HBY : Hid (Below w.heap.size w Y) := HBw.out.trans (bY.mono HBw.out.size)
        have HRD : Hid (L.Rd Y (.slice dp D.length dc) .i32 D) := rD
        have HYb : Hid (Y.heap[w.heap.size]? = some (.cells #[.int .i64 0, .int .i64 0] 27)) := K.blk_below HXw.out bY
        have hYs : w.heap.size < Y.heap.size := (Array.getElem?_eq_some_iff.1 HYb.out).1
        obtain ⟨c, hcD⟩ : ∃ c, c = D ++ [1114112] := ⟨_, rfl⟩
        rw [← hcD] at HCu
        have HGet : Hid (∀ k, k < D.length → D[k]? = some (c.getD k 0)) := fun k hk => by
          rw [hcD]
          simp [List.getD, List.getElem?_append, hk]
        have hcl : c.length = D.length + 1 := by rw [hcD]; simp
        have HCl : Hid (c.length = D.length + 1) := hcl
        clear rD bY HEd HXw hcD hcl
        have HFew : Hid (∀ q, (J.begins l q).length ≤ 4611686018427387903) := fun q => by
          have h2 := J.which_len (fun r => S.memb (K.headS r) q) l 0
          unfold J.begins
          omega
        go_wp2_with fail
        go_loopw [7, 37] (fun vo i wr => ∃ k : Nat, k ≤ D.length ∧ i = .int .i64 k ∧ Hid (J.Own Y.heap.size wr vo (J.part (J.begins l) c k) ∧ Below Y.heap.size Y wr)) (fun _ i _ => D.length - (RowKit.intOf i).toNat)
        case atStart => exact ⟨0, Nat.zero_le _, rfl, J.Own.nil _ _, Below.refl _ _⟩
        case round =>
          obtain ⟨k, hk, rfl, HO⟩ := hrel
          have hwr := HO.out.2.size
          by_cases hlt : k < D.length
          · have HBw : Hid (Below w.heap.size w wr) := HBY.out.trans (HO.out.2.mono (by omega))
            obtain ⟨dp', dc', h9, _, hcs⟩ := HRD.out.below HO.out.2 (Nat.le_refl _)
            cases h9
            obtain ⟨db, df, rfl, hcell⟩ := hcs (by intro h; rw [h] at hlt; simp at hlt)
            have y0 := hcell k _ (HGet.out k hlt)
            have hBg := rBegin_any wr _ l (HR.out.below HBw.out) hl HE2.out (c.getD k 0)
            have r1 := J.mem_range HE2.out ((HCu.out.2 _).1 (HCu.out.get (k := k) (by have := HCl.out; omega)))
            have HBg : Hid (Calls Tryz.prog 33 #[.slice ao l.length cap, .int .i32 (c.getD k 0)] wr fun e w' => ∃ go gc, e = .returned (.slice go (J.begins l (c.getD k 0)).length gc) ∧ w'.ownsRow Y.heap.size 3 1 (.slice go (J.begins l (c.getD k 0)).length gc) (J.begins l (c.getD k 0)).length ((J.begins l (c.getD k 0)).map (Value.int .i64)) ∧ J.Own Y.heap.size w' u7 (J.part (J.begins l) c k) ∧ Below Y.heap.size Y w') := by
              refine hBg.mono ?_
              rintro e w' ⟨v', h1, h2, h3⟩
              obtain ⟨go, gc, rfl⟩ : ∃ a b, v' = .slice a (J.begins l (c.getD k 0)).length b := by
                obtain ⟨a, b, h, _⟩ := L.Rd.of_owns h2
                exact ⟨a, b, h⟩
              exact ⟨go, gc, h1, L.owns_base h2 hwr, HO.out.1.below h3, HO.out.2.trans (h3.mono hwr)⟩
            have HPs : Hid (∀ m, k = m + 1 → (c.getD k 0 - 1 = c.getD (m + 1) 0 - 1) ∧ decide (J.begins l (c.getD m 0) = J.begins l (c.getD k 0)) = false) := fun m hm => by
              refine ⟨by rw [hm], decide_eq_false ?_⟩
              rw [hm]
              exact HCu.out.diff HE2.out (by have := HCl.out; omega)
            have hPl := J.part_len (J.begins l) c k
            clear hcs hcell hBg HO
            generalize hck : c.getD k 0 = q at y0 HBg r1 HPs
            have HCk : Hid (c.getD k 0 = q) := hck
            have HPl : Hid ((J.part (J.begins l) c k).length = k) := hPl
            clear hck hPl
            obtain ⟨r2, r3⟩ := r1
            generalize hbl : J.begins l q = bl at HBg HPs
            have HBl : Hid (J.begins l q = bl) := hbl
            clear hbl
            go_wp2_with fail
            go_at_call 33
            refine HBg.out.mono ?_
            rintro e w3 ⟨go, gc, rfl, own3, hO3, b3⟩
            have HB3 : Hid (Below Y.heap.size Y w3) := b3
            have hw3 := b3.size
            have HOw3 : Hid (w3.ownsRow Y.heap.size 3 1 (.slice go bl.length gc) bl.length (bl.map (Value.int .i64))) := own3
            have HO3 : Hid (J.Own Y.heap.size w3 u7 (J.part (J.begins l) c k)) := hO3
            clear own3 hO3 b3 y0 HBg
            cases k with
            | zero =>
              obtain ⟨uo9, uc9, hu9⟩ := HO3.out.len
              rw [HPl.out] at hu9
              subst hu9
              obtain ⟨v4, w4, run4, own4, b4⟩ := HO3.out.push HB3.out hw3 (by rw [HPl.out]; omega) q 1114111 bl (.slice go bl.length gc) HOw3.out
              have HX4 : Hid (J.Own Y.heap.size w4 v4 (J.part (J.begins l) c 1) ∧ Below Y.heap.size Y w4) := by
                refine ⟨?_, b4⟩
                have e : J.part (J.begins l) c 1 = J.part (J.begins l) c 0 ++ [(q, 1114111, bl)] := by rw [← HBl.out, ← HCk.out]; rfl
                rw [e]
                exact own4
              clear own4 b4 HO3 HOw3 HPs HPl
              go_wp2_with (at_builtin; go_must (refine J.wpl_run rfl (.tmp 66) (.tmp 70) rfl (.slice uo9 0 uc9) (.slice (some ⟨w3.heap.size, 0, none⟩) 1 1) v4 w4 rfl rfl run4 ?_))
              go_roundw
              case rel => exact ⟨1, by omega, by go_num, HX4.out⟩
              case measure => simp [RowKit.intOf]; omega
            | succ m =>
              obtain ⟨hp1, hp2⟩ := HPs.out m rfl
              have hpart : J.part (J.begins l) c (m + 1) = J.heads (J.begins l) c m ++ [(c.getD m 0, 1114111, J.begins l (c.getD m 0))] := rfl
              rw [hpart] at HO3
              obtain ⟨X9, cap9, hu9, hF9, _⟩ := HO3.out.high
              rw [J.heads_len] at hu9
              subst hu9
              obtain ⟨X', off', ro, rc, h9, _, _, cr, hrr⟩ := HO3.out.rd.at (k := m) (p := (c.getD m 0, 1114111, J.begins l (c.getD m 0))) (by rw [List.getElem?_append_right (by rw [J.heads_len]; omega), J.heads_len]; simp)
              cases h9
              simp only at cr hrr
              rw [Nat.zero_add] at cr
              have h9 := rSame9_drew w3 _ _ _ _ hrr (L.Rd.of_owns HOw3.out) (HFew.out _) (by rw [← HBl.out]; exact HFew.out _)
              rw [hp2] at h9
              have HQ : Hid (c.getD m 0 = c.getD m 0 ∧ q - 1 = c.getD (m + 1) 0 - 1) := ⟨rfl, hp1⟩
              generalize hbm : J.begins l (c.getD m 0) = bm at cr h9 HO3
              have H9 : Hid (Calls Tryz.prog 34 #[.slice ro bm.length rc, .slice go bl.length gc] w3 fun e w' => e = .returned (.bool false) ∧ w'.cell? ⟨X9, m * 3 + 1, none⟩ = some (.int .i32 1114111) ∧ w'.frozen? ⟨X9, m * 3 + 1, none⟩ = false ∧
                  ∃ v4 w4, (Builtin.append_ #[57, 57] 57 #[.slice (some ⟨X9, 0, none⟩) (m + 1) cap9, .slice (some ⟨w'.heap.size, 0, none⟩) 1 1]).run Tryz.prog ((w'.setCell ⟨X9, m * 3 + 1, none⟩ (.int .i32 (q - 1))).alloc (.cells #[.int .i32 q, .int .i32 1114111, .slice go bl.length gc] 76)) = .ok v4 w4 ∧ J.Own Y.heap.size w4 v4 (J.heads (J.begins l) c m ++ [(c.getD m 0, q - 1, bm)] ++ [(q, 1114111, bl)]) ∧ Below Y.heap.size Y w4) := by
                refine h9.mono ?_
                rintro e w' ⟨h1, n, rfl⟩
                have hd : Below w3.heap.size w3 (w3.drewN n) := below_drewN (Below.refl _ _) _
                obtain ⟨X2, cap2, hu2, hF2, d1, d2, d3⟩ := (HO3.out.below hd).high
                rw [J.heads_len] at hu2 d1 d2 d3
                cases hu2
                obtain ⟨o5, k5⟩ := d3 (q - 1)
                have hB5 : Below Y.heap.size Y ((w3.drewN n).setCell ⟨X9, m * 3 + 1, none⟩ (.int .i32 (q - 1))) := (HB3.out.trans (hd.mono hw3)).setCell (p := ⟨X9, m * 3 + 1, none⟩) hF9 _
                obtain ⟨v4, w4, r4, o4, B4⟩ := o5.push hB5 hB5.size (by rw [List.length_append, J.heads_len]; simp; omega) q 1114111 bl (.slice go bl.length gc) (k5 _ _ _ (L.owns_below HOw3.out hd (Nat.le_refl _)))
                refine ⟨h1, d1, d2, v4, w4, ?_, o4, B4⟩
                have hsz : ((w3.drewN n).setCell ⟨X9, m * 3 + 1, none⟩ (.int .i32 (q - 1))).heap.size = (w3.drewN n).heap.size := by simp
                rw [hsz] at r4
                exact r4
              have HEq : Hid (J.heads (J.begins l) c m ++ [(c.getD m 0, q - 1, bm)] ++ [(q, 1114111, bl)] = J.part (J.begins l) c (m + 2)) := by
                show _ = _
                rw [J.part, J.heads_succ, J.headAt, HCk.out, HBl.out, hbm]
              clear h9 hrr hp1 hp2 HO3 HOw3 HPs HPl hpart hbm
              go_wp2_with fail
              go_at_call 34
              refine H9.out.mono ?_
              rintro e w5 ⟨rfl, d1, d2, v4, w4, run4, o4, b4⟩
              have HX4 : Hid (J.Own Y.heap.size w4 v4 (J.part (J.begins l) c (m + 2)) ∧ Below Y.heap.size Y w4) := ⟨by rw [← HEq.out]; exact o4, b4⟩
              clear o4 b4 H9 cr HEq
              go_wp2_with (at_builtin; go_must (refine J.wpl_run rfl (.tmp 66) (.tmp 70) rfl (.slice (some ⟨X9, 0, none⟩) (m + 1) cap9) (.slice (some ⟨w5.heap.size, 0, none⟩) 1 1) v4 w4 rfl rfl run4 ?_))
              go_roundw
              case rel => exact ⟨m + 2, by omega, by go_num, HX4.out⟩
              case measure => simp [RowKit.intOf]; omega
          · have hke : k = D.length := by omega
            subst hke
            have hpe := J.part_end HCu.out HE2.out (J.begins l)
            rw [show c.length - 1 = D.length by have := HCl.out; omega] at hpe
            rw [hpe] at HO
            obtain ⟨uo9, uc9, hu9⟩ := HO.out.1.len
            rw [J.heads_len] at hu9
            subst hu9
            have hx5 := K.blk_below HYb.out HO.out.2
            obtain ⟨x0, x1, f0, f1⟩ := K.box2 hx5
            have HBf : Hid (∀ u u', Below w.heap.size w ((wr.setCell ⟨w.heap.size, 0, none⟩ u).setCell ⟨w.heap.size, 1, none⟩ u')) := fun u u' => (((HBY.out).trans (HO.out.2.mono (by omega))).setCell (p := ⟨w.heap.size, 0, none⟩) (Nat.le_refl _) _).setCell (p := ⟨w.heap.size, 1, none⟩) (Nat.le_refl _) _
            clear hx5 hpe
            by_cases hm : 400 < D.length
            · have HOo : Hid (J.Comp l ([], 5, 0)) := HY2.out c HCu.out _ (.inl ⟨by have := HCl.out; omega, rfl⟩)
              go_wp2
              refine bodyPost_ret (v := .tuple #[.slice none 0 0, .agg #[.int .i64 5, .int .i64 0]]) (by simp [results, Tryz.results20, go_sem, *]) rfl ?_
              exact ⟨_, _, HOo.out, rfl, J.Own.nil _ _, HBf.out _ _⟩
            · have HOo : Hid (J.Comp l (J.heads (J.begins l) c D.length, 0, 0)) := HY2.out c HCu.out _ (.inr ⟨by have := HCl.out; omega, by rw [show c.length - 1 = D.length by have := HCl.out; omega]⟩)
              have HFin : Hid (∀ u u', J.Own w.heap.size ((wr.setCell ⟨w.heap.size, 0, none⟩ u).setCell ⟨w.heap.size, 1, none⟩ u') (.slice uo9 D.length uc9) (J.heads (J.begins l) c D.length)) := fun u u' => by
                refine (HO.out.1.kept fun g hg => ?_).base (by omega)
                have hne : g ≠ w.heap.size := by omega
                rw [heap_setCell_other _ ⟨w.heap.size, 1, none⟩ g _ hne, heap_setCell_other _ ⟨w.heap.size, 0, none⟩ g _ hne]
              clear HO
              go_wp2
              refine bodyPost_ret (v := .tuple #[.slice uo9 D.length uc9, .agg #[.int .i64 0, .int .i64 0]]) (by simp [results, Tryz.results20, go_sem, *]) rfl ?_
              exact ⟨_, _, HOo.out, rfl, HFin.out _ _, HBf.out _ _⟩
  · have HNN : Hid (J.Comp l ([], e1, e2)) := HN.out q
    go_wp2
    go_region
    go_wp2
    refine bodyPost_ret (v := .tuple #[.slice none 0 0, .agg #[.int .i64 e1, .int .i64 e2]]) (by simp [results, Tryz.results20, go_sem, *]) rfl ?_
    exact ⟨_, ([], e1, e2), HNN.out, rfl, J.Own.nil _ _, (((HB2.out _).setCell (p := ⟨w.heap.size, 0, none⟩) (Nat.le_refl _) _).setCell (p := ⟨w.heap.size, 1, none⟩) (Nat.le_refl _) _).drew⟩

end Go.Proofs.YtlmmjefplbcapaaGreat
