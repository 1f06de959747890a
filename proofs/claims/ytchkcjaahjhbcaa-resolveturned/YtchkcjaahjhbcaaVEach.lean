/-
  What each makes of a list of items: the row of their sets.
-/
import Derived.Test.YtchkcjaahjhbcaaVLook
import Derived.Test.YtchkcjaahjhbcaaRStay
namespace Go.Proofs.Ytchkcjaahjhbcaa
open Go.RowKit Go.Lib
set_option maxRecDepth 20000
set_option linter.unusedSimpArgs false
set_option linter.unusedVariables false

theorem V.list_add {α : Type} {t e : TypeId} {k F F2 : Nat} {El : α → List Value → World → Prop} {ops : Array Oper} {rest : List Oper} {o : Oper} {a : Act} {w : World} {Q : Exit → Act → World → Prop} (E : R.Elem t e k) (hgd : o.guard = none) (s x : Operand)
    (ho : o.op = .call { callee := .builtin .append, args := #[s, x], argTypes := #[t, t] }) (v v2 : Value) (xs ys : List α) (hs : a.eval s = v) (hx : a.eval x = v2) (h : R.Row e k El F w v xs) (h2 : R.Row e k El F2 w v2 ys) (hF : F ≤ F2) (hne : ∀ g, v.ownBlock = some g → g < F2)
    (hsz : xs.length + ys.length ≤ 100000000) (hb : F ≤ w.heap.size)
    (hk : ∀ v' w', R.Row e k El F w' v' (xs ++ ys) → w.grownBy w' v.ownBlock → (∀ g, v'.ownBlock = some g → v.ownBlock = some g ∨ w.heap.size ≤ g) → wpList Try.prog ops Q rest (a.put o.dst v') w') : wpList Try.prog ops Q (o :: rest) a w := by
  obtain ⟨v', w', hrun, h3, h4, h5⟩ := R.Row.add E o.type h h2 hF hne hsz hb
  refine wpList_plain hgd fun _ hK => ?_
  have h' := hK _ _ (hk v' w' h3 h4 h5)
  unfold Oper.wp
  simp [execOp, ho, resolve, invoke, builtin, hs, hx, hrun, Result.andThen]
  exact h'


theorem V.elemS : R.Elem 63 40 1 := ⟨Try.underlying63, ⟨.slice none 0 0, 24, by kernel_rfl, by decide, rfl⟩, by decide⟩
/-- a cell reads as a set -/
def V.SetEl (s : List S.Sp) (c : List Value) (w : World) : Prop := ∃ u so sc, c = [u] ∧ u = .slice so s.length sc ∧ S.Rd w u s
/-- a row of sets of one's own, from block F on -/
def V.SetRow (F : Nat) (w : World) (v : Value) (l : List (List S.Sp)) : Prop := R.Row 40 1 V.SetEl F w v l

/-- one set, in a new block -/
theorem V.one_set {w : World} {F : Nat} {u : Value} {s : List S.Sp} (h : w.ownsRow F 71 2 u s.length (S.cellsOf s)) (hF : F ≤ w.heap.size) : V.SetRow F (w.alloc (.cells #[u] 40)) (.slice (some ⟨w.heap.size, 0, none⟩) 1 1) [s] := by
  have hr : S.Rd w u s := S.Rd.of_owns h
  obtain ⟨so, sc, hu, _⟩ := hr
  have hr : S.Rd w u s := S.Rd.of_owns h
  have hs : R.Stays F none w (V.SetEl s [u]) := (R.rd_stays hr (fun g hg => (h.lt g hg).1)).imp fun w' k => ⟨u, so, sc, rfl, hu, k⟩
  exact R.Row.one [u] rfl (fun x hx => by simp at hx; subst hx; rw [hu]; rfl) hs hF

set_option maxHeartbeats 2000000 in
theorem eachs_any (w : World) (v : Value) (l : List R.Item) (bm : Nat) (g : ByteArray → List S.Sp) (HV : V.Vars w bm g) (RR : R.Its w v l) (hl : l.length ≤ 1000) (hs : ∀ x ∈ l, x.kind = 2 → x.set.length ≤ 17592186044160) :
    Calls Try.prog 78 #[v, .func (.func 77) #[] #[.pointer (some ⟨bm, 0, none⟩)]] w fun e w' => ∃ v', e = .returned v' ∧ V.SetRow w.heap.size w' v' (l.map (V.setOf g)) ∧ Below w.heap.size w w' := by
  have HR : Hid (R.Its w v l) := RR
  have HVs : Hid (V.Vars w bm g) := HV
  have HS : Hid (∀ x ∈ l, x.kind = 2 → x.set.length ≤ 17592186044160) := hs
  obtain ⟨ao, ca, rfl⟩ := RR.len
  clear RR HV hs
  go_enter Try.func78, Try.ntmps78
  go_wp2
  go_loopw [5, 10] (fun v i wr => ∃ k : Nat, k ≤ l.length ∧ i = .int .i64 k ∧ Hid (V.SetRow w.heap.size wr v ((l.take k).map (V.setOf g)) ∧ Below w.heap.size w wr)) (fun _ i _ => l.length - (intOf i).toNat)
  case atStart => exact ⟨0, Nat.zero_le _, rfl, R.Row.nil _ _, Below.refl _ w⟩
  case round =>
    obtain ⟨k, hk, rfl, HB⟩ := hrel
    by_cases hlt : k < l.length
    · obtain ⟨x, hx⟩ : ∃ x, l[k]? = some x := ⟨l[k], by simp [hlt]⟩
      obtain ⟨ao', ca', e', hcs⟩ := HR.out.below HB.out.2
      cases e'
      obtain ⟨b, off, rfl, hcell⟩ := hcs (by intro h; subst h; simp at hlt)
      obtain ⟨c0, c1, c3, ⟨so, sc, c2, r2⟩, hf, hnm⟩ := hcell k x hx
      have hsl := HS.out x (List.mem_of_getElem? hx)
      have HL : Hid (∀ W, Below wr.heap.size wr W → Calls Try.prog 77 #[.agg #[.int .i64 x.kind, .int .i32 x.rune, .slice so x.set.length sc, .string x.name], .pointer (some ⟨bm, 0, none⟩)] W
          fun e w' => ∃ v', e = .returned v' ∧ w'.ownsRow W.heap.size 71 2 v' (V.setOf g x).length (S.cellsOf (V.setOf g x)) ∧ Below W.heap.size W w') := fun W hW => lookf_any W x so sc bm g ((HVs.out.below HB.out.2).below hW) (r2.below hW (Nat.le_refl _)) hsl hnm
      clear hcell hcs r2 hf hnm hsl
      have HX : Hid (l[k]? = some x) := hx
      clear hx
      generalize hst : V.setOf g x = st at HL
      have HXs : Hid ((l.take (k + 1)).map (V.setOf g) = (l.take k).map (V.setOf g) ++ [st]) := by
        show _ = _
        rw [List.take_add_one, HX.out]; simp [hst]
      clear hst HX
      obtain ⟨xk, xr, xs, xn⟩ := x
      simp only at c0 c1 c2 c3 HL
      have hb1 : b < wr.heap.size := L.block_lt c0
      have HbA : Hid (Below wr.heap.size wr (wr.alloc (.cells #[.int .i64 xk, .int .i32 xr, .slice so xs.length sc, .string xn] 56))) := (Below.refl _ wr).alloc (Nat.le_refl _) _
      go_wp2_with fail
      refine (HL.out _ HbA.out).mono ?_
      rintro e w5 ⟨v5, rfl, o5, b5⟩
      obtain ⟨s5, q5, rfl⟩ : ∃ s5 q5, v5 = .slice s5 st.length q5 := by
        obtain ⟨s5, q5, hu, _⟩ := S.Rd.of_owns o5
        exact ⟨s5, q5, hu⟩
      have hs5 : wr.heap.size + 1 ≤ w5.heap.size := by have := b5.size; simpa using this
      have bw5 : Below wr.heap.size wr w5 := HbA.out.trans (b5.mono HbA.out.size)
      have hsz5 : w.heap.size ≤ wr.heap.size := HB.out.2.size
      have HO : Hid (V.SetRow w.heap.size (w5.alloc (.cells #[.slice s5 st.length q5] 40)) u5 ((l.take k).map (V.setOf g)) ∧ V.SetRow (wr.heap.size + 1) (w5.alloc (.cells #[.slice s5 st.length q5] 40)) (.slice (some ⟨w5.heap.size, 0, none⟩) 1 1) [st] ∧ Below w.heap.size w (w5.alloc (.cells #[.slice s5 st.length q5] 40)) ∧ ∀ g, u5.ownBlock = some g → w.heap.size ≤ g ∧ g < wr.heap.size) :=
        ⟨(R.Row.below HB.out.1 bw5).below ((Below.refl _ w5).alloc (Nat.le_refl _) _), V.one_set (by simpa using o5) hs5, (HB.out.2.trans (bw5.mono HB.out.2.size)).alloc (by omega) _, fun g hg => HB.out.1.lt g hg⟩
      clear o5 b5 bw5 c0 c1 c2 c3 hb1
      have hlen : ((l.take k).map (V.setOf g)).length = k := by simp; omega
      have HLen : Hid (((l.take k).map (V.setOf g)).length = k) := hlen
      clear hlen
      go_wp2_with (at_builtin; go_must (refine V.list_add V.elemS rfl _ _ rfl _ _ ((l.take k).map (V.setOf g)) [st] rfl rfl HO.out.1 HO.out.2.1 (by omega) (fun g hg => by have := (HO.out.2.2.2 g hg).2; omega) (by have := HLen.out; rw [this]; simp; omega) (by simp; omega) ?_; intro v6 w6 R6 g6 n6; have HX6 : Hid (V.SetRow w.heap.size w6 v6 ((l.take k).map (V.setOf g) ++ [st]) ∧ Below w.heap.size w w6) := ⟨R6, Below.grown HO.out.2.2.1 g6 HO.out.2.2.1.size (fun j hj => (HO.out.2.2.2 j hj).1)⟩; clear R6 g6 n6))
      go_roundw
      case rel => exact ⟨k + 1, by omega, by go_num, by rw [HXs.out]; exact HX6.out.1, HX6.out.2⟩
      case measure => simp [intOf]; omega
    · have hkl : k = l.length := by omega
      subst hkl
      go_wp2
      go_ret
      exact ⟨_, rfl, by simpa using HB.out.1, HB.out.2⟩

end Go.Proofs.Ytchkcjaahjhbcaa
