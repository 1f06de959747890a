/-
  A file that is read: one item, whatever it is.
-/
import Derived.Test.YtajbcgobfkaahaaGreatDoorRRd2
namespace Go.Proofs.YtajbcgobfkaahaaGreatDoor
open Go.RowKit
set_option maxRecDepth 20000
set_option linter.unusedSimpArgs false

theorem R.grown_row {w0 w9 w' : World} {cb : Nat} {X : Option Nat} (h : w0.grownBy w9 (some cb)) (hp : w9.grownBy w' X) (hg : ∀ g, X = some g → w0.heap.size ≤ g) : w0.grownBy w' (some cb) :=
  ⟨hp.os.trans h.os, hp.tape.trans h.tape, hp.output.trans h.output, Nat.le_trans h.size hp.size, fun k hk hne => by
    rw [hp.block k (Nat.lt_of_lt_of_le hk h.size) (fun e => by have := hg k e.symm; omega)]; exact h.block k hk hne⟩
theorem T.Cur.row {w w' : World} {cb tb cap p F : Nat} {X : Option Nat} {ao : Option Addr} {l : List Int} (C : T.Cur w cb tb cap ao l p) (hp : w.grownBy w' X) (hX : ∀ g, X = some g → F ≤ g) (hc : cb < F) (ht : l ≠ [] → tb < F) : T.Cur w' cb tb cap ao l p := by
  refine ⟨?_, C.txt, fun j z hj => ?_, C.ne, C.le, C.len, C.cp, C.rt⟩
  · obtain ⟨t, hb⟩ := C.blk
    exact ⟨t, by rw [hp.block cb C.lt (fun e => by have := hX cb e.symm; omega)]; exact hb⟩
  · have hn : tb < F := ht (by intro h; subst h; simp at hj)
    have h1 := C.rd j z hj
    rw [World.cell?_of_block (a := ⟨tb, j, none⟩) (hp.block tb (L.block_lt h1) (fun e => by have := hX tb e.symm; omega))]
    exact h1

theorem R.list_add {α : Type} {t e : TypeId} {k F F2 : Nat} {El : α → List Value → World → Prop} {ops : Array Oper} {rest : List Oper} {o : Oper} {a : Act} {w : World} {Q : Exit → Act → World → Prop} (E : R.Elem t e k) (hgd : o.guard = none) (s x : Operand)
    (ho : o.op = .call { callee := .builtin .append, args := #[s, x], argTypes := #[t, t] }) (v v2 : Value) (xs ys : List α) (hs : a.eval s = v) (hx : a.eval x = v2) (h : R.Row e k El F w v xs) (h2 : R.Row e k El F2 w v2 ys) (hF : F ≤ F2) (hne : ∀ g, v.ownBlock = some g → g < F2)
    (hsz : xs.length + ys.length ≤ 100000000) (hb : F ≤ w.heap.size)
    (hk : ∀ v' w', R.Row e k El F w' v' (xs ++ ys) → w.grownBy w' v.ownBlock → (∀ g, v'.ownBlock = some g → v.ownBlock = some g ∨ w.heap.size ≤ g) → wpList Tryz.prog ops Q rest (a.put o.dst v') w') : wpList Tryz.prog ops Q (o :: rest) a w := by
  obtain ⟨v', w', hrun, h3, h4, h5⟩ := R.Row.add E o.type h h2 hF hne hsz hb
  refine wpList_plain hgd fun _ hK => ?_
  have h' := hK _ _ (hk v' w' h3 h4 h5)
  unfold Oper.wp
  simp [execOp, ho, resolve, invoke, builtin, hs, hx, hrun, Result.andThen]
  exact h'

def R.assignedAt (l : List Int) (p : Nat) : T.Out (Option ByteArray) :=
  if R.varNext l p = true then
    match R.varAt l p with
    | .bad e q => .bad e q
    | .ok n q => if T.see l (R.gap l q) = 61 then .ok (some n) (R.gap l q + 1) else .ok none p
  else .ok none p
def R.isName (n : Option ByteArray) (v : Value) (_ : World) : Prop :=
  match n with
  | some n => v = .tuple #[.string n, .bool true]
  | none => v = .tuple #[.string ⟨#[]⟩, .bool false]

set_option maxHeartbeats 4000000 in
theorem assigned_any (w : World) (cb tb cap p : Nat) (ao : Option Addr) (l : List Int) (C : T.Cur w cb tb cap ao l p) :
    Calls Tryz.prog 84 #[.pointer (some ⟨cb, 0, none⟩)] w (T.Ends w cb tb cap ao l (R.assignedAt l p) R.isName) := by
  have hlen := C.len
  have hple := C.le
  have c1 := C.cell1
  have HC : Hid (T.Cur w cb tb cap ao l p) := C
  clear C
  obtain ⟨o, HO⟩ : ∃ o, Hid (R.assignedAt l p = o) := ⟨_, rfl⟩
  rw [HO.out]
  go_enter Tryz.func84, Tryz.ntmps84
  go_wp2_with fail
  refine (varNext_any _ cb tb cap p ao l HC.out).mono ?_
  rintro e w1 ⟨rfl, b1⟩
  have C1 := HC.out.below b1
  have c11 := C1.cell1
  have f11 := C1.frz1
  have HC1 : Hid (T.Cur w1 cb tb cap ao l p) := C1
  have HG1 : Hid (w.grownBy w1 (some cb)) := S.grown_below b1
  clear b1 C1 c1
  by_cases hv : R.varNext l p = true
  · clear c11 f11
    go_wp2_with fail
    refine (variable_any _ cb tb cap p ao l HC1.out hv).mono ?_
    intro e w2 h
    cases hc : R.varAt l p with
    | bad er q =>
      rw [hc] at h
      obtain ⟨rfl, g2⟩ := h
      unfold T.thrown
      go_wp2
      refine ⟨rfl, ?_⟩
      rw [← HO.out]; unfold R.assignedAt; rw [if_pos hv, hc]
      exact ⟨rfl, S.grown_trans HG1.out g2⟩
    | ok n q =>
      rw [hc] at h
      obtain ⟨v, rfl, hvn, C2, g2⟩ := h
      unfold R.isText at hvn
      subst hvn
      have HC2 : Hid (T.Cur w2 cb tb cap ao l q) := C2
      have HG2 : Hid (w.grownBy w2 (some cb)) := S.grown_trans HG1.out g2
      have HHc : Hid _ := hc
      clear C2 g2 hc
      go_wp2_with fail
      refine (between_any _ cb tb cap q ao l HC2.out).mono ?_
      rintro e w3 ⟨rfl, C3, g3⟩
      have HC3 : Hid (T.Cur w3 cb tb cap ao l (R.gap l q)) := C3
      have HG3 : Hid (w.grownBy w3 (some cb)) := S.grown_trans HG2.out g3
      clear C3 g3
      go_wp2_with fail
      refine (skip_any _ cb tb cap (R.gap l q) ao l 61 (by decide) HC3.out).mono ?_
      rintro e w4 ⟨rfl, C4, g4⟩
      have HG4 : Hid (w.grownBy w4 (some cb)) := S.grown_trans HG3.out g4
      clear g4
      by_cases h61 : T.see l (R.gap l q) = 61
      · rw [if_pos h61] at C4
        have HC4 : Hid (T.Cur w4 cb tb cap ao l (R.gap l q + 1)) := C4
        clear C4
        go_wp2
        go_ret2
        rw [← HO.out]; unfold R.assignedAt; rw [if_pos hv, HHc.out]; simp only; rw [if_pos h61]
        exact ⟨_, rfl, rfl, HC4.out, HG4.out⟩
      · rw [if_neg h61] at C4
        have c4 := C4.cell1
        have f4 := C4.frz1
        have HC4 : Hid (T.Cur w4 cb tb cap ao l (R.gap l q)) := C4
        clear C4
        go_wp2
        go_ret2
        rw [← HO.out]; unfold R.assignedAt; rw [if_pos hv, HHc.out]; simp only; rw [if_neg h61]
        exact ⟨_, rfl, rfl, HC4.out.set hple, S.grown_trans HG4.out (fr_set _ _ _ _)⟩
  · go_wp2
    go_ret2
    rw [← HO.out]; unfold R.assignedAt; rw [if_neg hv]
    exact ⟨_, rfl, rfl, HC1.out.set hple, S.grown_trans HG1.out (fr_set _ _ _ _)⟩

/-- behind the first quote -/
def R.quotedAt (l : List Int) (p : Nat) : T.Out (List R.Item) :=
  if T.see l (T.skipW R.notQuo l p) = 39 then .ok ((T.cut l p (T.skipW R.notQuo l p)).map R.runeI) (T.skipW R.notQuo l p + 1) else .bad 2 (T.skipW R.notQuo l p)
theorem cut_snoc {l : List Int} {p q : Nat} (h1 : p ≤ q) (h2 : q < l.length) : T.cut l p (q + 1) = T.cut l p q ++ [T.see l q] := by
  unfold T.cut
  rw [show q + 1 - p = (q - p) + 1 by omega, List.take_add_one]
  congr 1
  rw [List.getElem?_drop, show p + (q - p) = q by omega, T.see_lt h2]
  rfl
theorem cut_here (l : List Int) (p : Nat) : T.cut l p p = [] := by unfold T.cut; rw [Nat.sub_self, List.take_zero]

set_option maxHeartbeats 4000000 in
theorem quoted_any (w : World) (cb tb cap p : Nat) (ao : Option Addr) (l : List Int) (C : T.Cur w cb tb cap ao l p) :
    Calls Tryz.prog 143 #[.pointer (some ⟨cb, 0, none⟩)] w (T.Ends w cb tb cap ao l (R.quotedAt l p) fun xs v w' => R.RowI w.heap.size w' v xs) := by
  have hlen := C.len
  have hple := C.le
  obtain ⟨he1, he2⟩ := C.elder
  have HE2 : Hid (l ≠ [] → tb < w.heap.size) := he2
  have HC : Hid (T.Cur w cb tb cap ao l p) := C
  clear C he2
  obtain ⟨o, HO⟩ : ∃ o, Hid (R.quotedAt l p = o) := ⟨_, rfl⟩
  rw [HO.out]
  go_enter Tryz.func143, Tryz.ntmps143
  go_wp2
  go_loopw [3] (fun sv wr => ∃ (q : Nat) (xs : List R.Item) (vo : Option Addr) (vc : Nat), sv = .slice vo xs.length vc ∧ p ≤ q ∧ Hid ((T.cut l p q).map R.runeI = xs) ∧ Hid (∀ i, p ≤ i → i < q → R.notQuo (T.see l i) = true) ∧ Hid (R.RowI w.heap.size wr (.slice vo xs.length vc) xs) ∧ Hid (T.Cur wr cb tb cap ao l q) ∧ Hid (w.grownBy wr (some cb))) (fun _ wr => l.length - T.pos wr cb)
  case atStart => exact ⟨p, [], none, 0, rfl, Nat.le_refl _, by show _ = _; rw [cut_here]; rfl, fun i h1 h2 => by omega, R.Row.nil _ _, HC, S.grown_refl _ _⟩
  case round =>
    obtain ⟨q, xs, vo, vc, rfl, hq, HX, HA, HR, HCq, HG⟩ := hrel
    have HPos : Hid _ := HCq.out.pos
    have hql := HCq.out.le
    go_wp2_with fail
    refine (done_any _ cb tb cap q ao l HCq.out).mono ?_
    rintro e w1 ⟨rfl, b1⟩
    have HC1 : Hid (T.Cur w1 cb tb cap ao l q) := HCq.out.below b1
    have HG1 : Hid (w.grownBy w1 (some cb)) := S.grown_trans HG.out (S.grown_below b1)
    have HR1 : Hid (R.RowI w.heap.size w1 (.slice vo xs.length vc) xs) := R.Row.below HR.out b1
    clear b1
    have Hend : Hid (R.notQuo (T.see l q) = false → T.skipW R.notQuo l p = q) := fun hn => T.skipW_eq hq hql HA.out hn (by decide)
    by_cases hd : T.see l q = -1
    · have hsk := Hend.out (by rw [hd]; decide)
      have HSk : Hid _ := hsk
      clear hsk
      go_wp2_with fail
      refine (need_no _ cb tb cap q ao l 39 (by decide) HC1.out (by rw [hd]; decide)).mono ?_
      unfold T.thrown
      rintro e w2 ⟨rfl, g2⟩
      go_wp2
      refine ⟨rfl, ?_⟩
      rw [← HO.out]; unfold R.quotedAt; rw [HSk.out, hd, if_neg (by decide)]
      exact ⟨rfl, S.grown_trans HG1.out g2⟩
    · go_wp2_with fail
      refine (is_any _ cb tb cap q ao l 39 HC1.out).mono ?_
      rintro e w2 ⟨rfl, b2⟩
      have HC2 : Hid (T.Cur w2 cb tb cap ao l q) := HC1.out.below b2
      have HG2 : Hid (w.grownBy w2 (some cb)) := S.grown_trans HG1.out (S.grown_below b2)
      have HR2 : Hid (R.RowI w.heap.size w2 (.slice vo xs.length vc) xs) := R.Row.below HR1.out b2
      clear b2
      by_cases h39 : T.see l q = 39
      · have hsk := Hend.out (by rw [h39]; decide)
        have HSk : Hid _ := hsk
        clear hsk
        go_wp2_with fail
        refine (need_yes _ cb tb cap q ao l 39 (by decide) HC2.out h39).mono ?_
        rintro e w3 ⟨rfl, C3, g3⟩
        have HC3 : Hid (T.Cur w3 cb tb cap ao l (q + 1)) := C3
        have HG3 : Hid (w.grownBy w3 (some cb)) := S.grown_trans HG2.out g3
        have HR3 : Hid (R.RowI w.heap.size w3 (.slice vo xs.length vc) xs) := R.Row.cur HR2.out g3 he1
        clear C3 g3
        go_wp2
        go_ret
        rw [← HO.out]; unfold R.quotedAt; rw [HSk.out, h39, if_pos rfl, HX.out]
        exact ⟨_, rfl, HR3.out, HC3.out, HG3.out⟩
      · have hlt : q < l.length := HC2.out.inside hd
        go_wp2_with fail
        refine (take_any _ cb tb cap q ao l HC2.out hlt).mono ?_
        rintro e w3 ⟨rfl, C3, g3⟩
        have HC3 : Hid (T.Cur w3 cb tb cap ao l (q + 1)) := C3
        have HG3 : Hid (w.grownBy w3 (some cb)) := S.grown_trans HG2.out g3
        have HR3 : Hid (R.RowI w.heap.size w3 (.slice vo xs.length vc) xs) := R.Row.cur HR2.out g3 he1
        have hs3 := HG3.out.size
        have hlt3 := R.Row.lt HR3.out
        have HLt3 : Hid _ := hlt3
        clear C3 g3 hlt3
        have HL : Hid (xs.length ≤ 16000) := by
          show _ ≤ _
          rw [← HX.out, List.length_map]
          unfold T.cut
          rw [List.length_take, List.length_drop]
          omega
        obtain ⟨r, HRr⟩ : ∃ r, Hid (T.see l q = r) := ⟨_, rfl⟩
        rw [HRr.out]
        have bA := (Below.refl _ w3).alloc (Nat.le_refl _) (.cells #[.int .i64 1, .int .i32 r, .slice none 0 0, .string ⟨#[]⟩] 76)
        have HR4 : Hid (R.RowI w.heap.size (w3.alloc (.cells #[.int .i64 1, .int .i32 r, .slice none 0 0, .string ⟨#[]⟩] 76)) (.slice vo xs.length vc) xs) := R.Row.below HR3.out bA
        have HO4 : Hid (R.RowI w3.heap.size (w3.alloc (.cells #[.int .i64 1, .int .i32 r, .slice none 0 0, .string ⟨#[]⟩] 76)) (.slice (some ⟨w3.heap.size, 0, none⟩) 1 1) [R.runeI r]) := R.RowI.one 1 r none 0 [] ⟨#[]⟩ (rd_nil_stays _ _) (fun x hx => by cases hx) (by decide) (Nat.le_refl _)
        have HC4 : Hid (T.Cur (w3.alloc (.cells #[.int .i64 1, .int .i32 r, .slice none 0 0, .string ⟨#[]⟩] 76)) cb tb cap ao l (q + 1)) := HC3.out.below bA
        have HG4 : Hid (w.grownBy (w3.alloc (.cells #[.int .i64 1, .int .i32 r, .slice none 0 0, .string ⟨#[]⟩] 76)) (some cb)) := S.grown_trans HG3.out (S.grown_below bA)
        clear bA
        go_wp2_with (at_builtin; refine R.list_add R.elemI rfl _ _ rfl _ _ xs [R.runeI r] rfl rfl HR4.out HO4.out hs3 (fun g hg => (HLt3.out g hg).2) (by have := HL.out; simp; omega) (by simp; omega) ?_; intro v5 w5 R5 g5 n5)
        have HR5 : Hid (R.RowI w.heap.size w5 v5 (xs ++ [R.runeI r])) := R5
        have HC5 : Hid (T.Cur w5 cb tb cap ao l (q + 1)) := HC4.out.row g5 (fun g hg => (HLt3.out g hg).1) he1 HE2.out
        have HG5 : Hid (w.grownBy w5 (some cb)) := R.grown_row HG4.out g5 (fun g hg => (HLt3.out g hg).1)
        obtain ⟨vo5, vc5, hv5⟩ := R.Row.slice R5
        subst hv5
        clear R5 g5 n5
        go_wp2
        go_roundw
        case rel =>
          refine ⟨q + 1, xs ++ [R.runeI r], vo5, vc5, rfl, by omega, ?_, fun i h1 h2 => ?_, HR5, HC5, HG5⟩
          · show _ = _
            rw [cut_snoc hq hlt, List.map_append, HX.out, HRr.out]
            rfl
          · by_cases e : i = q
            · rw [e]; unfold R.notQuo; simp [h39, hd]
            · exact HA.out i h1 (by omega)
        case measure =>
          rw [HC5.out.pos, HPos.out]
          omega

end Go.Proofs.YtajbcgobfkaahaaGreatDoor
