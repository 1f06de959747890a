/-
  What the document's Do tells of two right sets, or what is wrong with them.
-/
import Derived.Test.YtginejblmkiamaaSDo
import Derived.Test.YtginejblmkiamaaSEdges
namespace Go.Proofs.Ytginejblmkiamaa
open Go.RowKit

theorem bad_none {l : List S.Sp} (h : S.Nf 0 l) : l.any S.bad = false := by
  rw [List.any_eq_false]
  intro x hx
  have := S.bad_false.2 (h.mem hx)
  simp [this]

theorem two_cells2 (w : World) (x y : Value) (t : TypeId) (i : Nat) (v : Value) (h : [x, y][i]? = some v) : (w.alloc (.cells #[x, y] t)).cell? ⟨w.heap.size, i, none⟩ = some v := by
  match i, h with
  | 0, h => simp at h; subst h; rw [World.cell?_alloc_at _ _ _ _ (by simp)]; rfl
  | 1, h => simp at h; subst h; rw [World.cell?_alloc_at _ _ _ _ (by simp)]; rfl
  | i + 2, h => simp at h
theorem one_cells2 (w : World) (x : Value) (t : TypeId) (i : Nat) (v : Value) (h : [x][i]? = some v) : (w.alloc (.cells #[x] t)).cell? ⟨w.heap.size, i, none⟩ = some v := by
  match i, h with
  | 0, h => simp at h; subst h; rw [World.cell?_alloc_at _ _ _ _ (by simp)]; rfl
  | i + 1, h => simp at h

set_option maxHeartbeats 2000000 in
theorem do_any (w : World) (va vb : Value) (a b : List S.Sp) (op : Int) (hop : op = 124 ∨ op = 38 ∨ op = 45) (Ra : S.Rd w va a) (Rb : S.Rd w vb b) (Fa : S.Fit a) (Fb : S.Fit b) :
    Calls Try.prog 22 #[.int .u8 op, va, vb] w (Tells w (S.wrongE a) (S.wrongE b) fun q => S.inR q && opF op (S.memb a q) (S.memb b q)) := by
  obtain ⟨aa, ca, rfl⟩ := Ra.len
  obtain ⟨ab, cb, rfl⟩ := Rb.len
  obtain ⟨W0, hW0⟩ : ∃ W0, W0 = ((w.alloc (.cells #[.int .u8 op] 5)).alloc (.cells #[.slice aa a.length ca] 22)).alloc (.cells #[.slice ab b.length cb] 22) := ⟨_, rfl⟩
  have hsize : W0.heap.size = w.heap.size + 3 := by rw [hW0]; simp
  have hbw : Below w.heap.size w W0 := by
    rw [hW0]; exact (((Below.refl _ w).alloc (Nat.le_refl _) _).alloc (by simp) _).alloc (by simp; omega) _
  have x1 : S.Bx W0 w.heap.size 5 (.int .u8 op) := by
    rw [hW0]
    exact ((S.Bx.new w _ _).below (B := w.heap.size + 1) ((Below.refl _ _).alloc (by simp) _) (by omega)).below (B := w.heap.size + 1) ((Below.refl _ _).alloc (by simp) _) (by omega)
  have x2 : S.Bx W0 (w.heap.size + 1) 22 (.slice aa a.length ca) := by
    rw [hW0]
    have h := S.Bx.new (w.alloc (.cells #[.int .u8 op] 5)) 22 (.slice aa a.length ca)
    rw [World.size_alloc] at h
    exact h.below (B := w.heap.size + 2) ((Below.refl _ _).alloc (by simp) _) (by omega)
  have x3 : S.Bx W0 (w.heap.size + 2) 22 (.slice ab b.length cb) := by
    rw [hW0]
    have h := S.Bx.new ((w.alloc (.cells #[.int .u8 op] 5)).alloc (.cells #[.slice aa a.length ca] 22)) 22 (.slice ab b.length cb)
    rw [World.size_alloc, World.size_alloc] at h
    exact h
  have HX : Hid (S.Bx W0 w.heap.size 5 (.int .u8 op) ∧ S.Bx W0 (w.heap.size + 1) 22 (.slice aa a.length ca) ∧ S.Bx W0 (w.heap.size + 2) 22 (.slice ab b.length cb) ∧ Below w.heap.size w W0 ∧ W0.heap.size = w.heap.size + 3) := ⟨x1, x2, x3, hbw, hsize⟩
  have HA : Hid (S.Rd W0 (.slice aa a.length ca) a) := Ra.below hbw (Nat.le_refl _)
  have HB : Hid (S.Rd W0 (.slice ab b.length cb) b) := Rb.below hbw (Nat.le_refl _)
  have hwa := refwrong_any W0 _ a HA.out Fa
  have hne94 : ¬ op = 94 := by omega
  have e1 := x1.cell
  have e2 := x2.cell
  have e3 := x3.cell
  clear x1 x2 x3 hbw hsize Ra Rb
  generalize hPP : (fun q => S.inR q && opF op (S.memb a q) (S.memb b q)) = PP
  have HPP : Hid ((fun q => S.inR q && opF op (S.memb a q) (S.memb b q)) = PP) := hPP
  clear hPP
  generalize hea : S.wrongE a = ea at *
  have HEA : Hid (S.wrongE a = ea) := hea
  clear hea
  go_enter Try.func22, Try.ntmps22
  go_wp2_with fail
  rw [← hW0]
  clear hW0
  refine hwa.mono ?_
  clear hwa
  rintro e W1 ⟨rfl, b1⟩
  obtain ⟨x1, x2, x3, hbw, hsize⟩ := HX.out
  have HB1 : Hid (Below W0.heap.size W0 W1) := b1
  have hs1 := b1.size
  replace e1 : W1.cell? ⟨w.heap.size, 0, none⟩ = some (.int .u8 op) := (x1.below b1 (by omega)).cell
  replace e2 : W1.cell? ⟨w.heap.size + 1, 0, none⟩ = some (.slice aa a.length ca) := (x2.below b1 (by omega)).cell
  replace e3 : W1.cell? ⟨w.heap.size + 2, 0, none⟩ = some (.slice ab b.length cb) := (x3.below b1 (by omega)).cell
  have HBW1 : Hid (Below w.heap.size w W1) := hbw.trans (b1.mono (by omega))
  clear x1 x2 x3 hbw b1 hsize
  by_cases hea : ea = 0
  · subst hea
    have hwb := refwrong_any W1 _ b (HB.out.below HB1.out (Nat.le_refl _)) Fb
    generalize heb : S.wrongE b = eb at *
    have HEB : Hid (S.wrongE b = eb) := heb
    clear heb
    have hq94 : (op == 94) = false := by simp [hne94]
    go_wp2_with fail
    refine hwb.mono ?_
    clear hwb
    rintro e W2 ⟨rfl, b2⟩
    have HB2 : Hid (Below W0.heap.size W0 W2) := HB1.out.trans (b2.mono hs1)
    have hs2 : W0.heap.size ≤ W2.heap.size := HB2.out.size
    have HBW2 : Hid (Below w.heap.size w W2) := HBW1.out.trans (b2.mono HBW1.out.size)
    obtain ⟨x1, x2, x3, hbw, hsize⟩ := HX.out
    replace e1 : W2.cell? ⟨w.heap.size, 0, none⟩ = some (.int .u8 op) := (x1.below HB2.out (by omega)).cell
    replace e2 : W2.cell? ⟨w.heap.size + 1, 0, none⟩ = some (.slice aa a.length ca) := (x2.below HB2.out (by omega)).cell
    replace e3 : W2.cell? ⟨w.heap.size + 2, 0, none⟩ = some (.slice ab b.length cb) := (x3.below HB2.out (by omega)).cell
    have hw0 : w.heap.size + 3 ≤ W2.heap.size := by omega
    clear x1 x2 x3 hbw hsize b2 HB1 HBW1 hs1
    by_cases heb : eb = 0
    · subst heb
      obtain ⟨la, na⟩ := S.wrongE_zero.1 HEA.out
      obtain ⟨lb, nb⟩ := S.wrongE_zero.1 HEB.out
      have HBa : Hid (∀ o, Below W2.heap.size W2 (W2.alloc o)) := fun o => (Below.refl _ W2).alloc (Nat.le_refl _) o
      have hbad : ∀ l ∈ [a, b], l.any S.bad = false := fun l hl => by
        simp at hl
        rcases hl with rfl | rfl
        · exact bad_none na
        · exact bad_none nb
      have RA2 : Hid (S.Rd W2 (.slice aa a.length ca) a) := HA.out.below HB2.out (Nat.le_refl _)
      have RB2 : Hid (S.Rd W2 (.slice ab b.length cb) b) := HB.out.below HB2.out (Nat.le_refl _)
      have hed := edges_any (W2.alloc (.cells #[.slice aa a.length ca, .slice ab b.length cb] 22)) W2.heap.size [.slice aa a.length ca, .slice ab b.length cb] [a, b] rfl (by simp) (fun i v h => two_cells2 W2 _ _ _ i v h) (fun i v l hv hl => by
        match i, hv, hl with
        | 0, hv, hl => simp at hv hl; subst hv; subst hl; exact RA2.out.below (HBa.out _) (Nat.le_refl _)
        | 1, hv, hl => simp at hv hl; subst hv; subst hl; exact RB2.out.below (HBa.out _) (Nat.le_refl _)
        | i + 2, hv, hl => simp at hv) hbad (fun l hl => by simp at hl; rcases hl with rfl | rfl <;> omega)
      have HEd := edged_of hbad (fun q => opF op (S.memb a q) (S.memb b q)) (fun q r h => by rw [h a (by simp), h b (by simp)])
      have hzl : (S.edgesF [a, b]).length ≤ 4194304 := by
        have h := (S.edgesF_spec hbad).2.2.2
        have h1 := edgesOf_len a
        have h2 := edgesOf_len b
        simp only [List.flatMap_cons, List.flatMap_nil, List.append_nil, List.length_append] at h
        omega
      change Calls _ _ #[.slice (some ⟨W2.heap.size, 0, none⟩) 2 2] _ _ at hed
      have HEd' : Hid _ := HEd
      clear HEd hbad
      generalize S.edgesF [a, b] = zs at *
      have eg : ∀ args w, (callFunc 47 args).run Try.prog w = .ok (.enter 47 args) w := enters_of Try.func47 (by kernel_rfl) rfl
      go_wp2_with fail
      refine hed.mono ?_
      clear hed
      rintro e W3 ⟨v3, rfl, R3, b3⟩
      have hb3 : Below W2.heap.size W2 W3 := (HBa.out _).trans (b3.mono (by simp))
      have HB3 : Hid (Below w.heap.size w W3) := HBW2.out.trans (hb3.mono HBW2.out.size)
      have hs3 := hb3.size
      have f1 : W3.cell? ⟨w.heap.size, 0, none⟩ = some (.int .u8 op) := by rw [hb3.cell (p := ⟨w.heap.size, 0, none⟩) (by show w.heap.size < _; omega)]; exact e1
      have f2 : W3.cell? ⟨w.heap.size + 1, 0, none⟩ = some (.slice aa a.length ca) := by rw [hb3.cell (p := ⟨w.heap.size + 1, 0, none⟩) (by show w.heap.size + 1 < _; omega)]; exact e2
      have f3 : W3.cell? ⟨w.heap.size + 1 + 1, 0, none⟩ = some (.slice ab b.length cb) := by rw [hb3.cell (p := ⟨w.heap.size + 1 + 1, 0, none⟩) (by show w.heap.size + 1 + 1 < _; omega)]; exact e3
      have hbd := build_any W3 v3 zs (fun q => opF op (S.memb a q) (S.memb b q)) 47 #[.pointer (some ⟨w.heap.size + 1, 0, none⟩), .pointer (some ⟨w.heap.size + 1 + 1, 0, none⟩), .pointer (some ⟨w.heap.size, 0, none⟩)] R3 HEd'.out hzl eg
        (fun W r hW => do2h_any (w.heap.size + 1) (w.heap.size + 1 + 1) w.heap.size _ _ a b op hop W3 W r (RA2.out.below hb3 (Nat.le_refl _)) (RB2.out.below hb3 (Nat.le_refl _)) (by omega) (by omega) (by omega) (by omega) (by omega) f2 f3 f1 hW)
      rw [HPP.out] at hbd
      obtain ⟨a3, c3, rfl, _⟩ := R3
      clear hb3 b3 e1 e2 e3 f1 f2 f3 HEd'
      go_wp2_with fail
      refine hbd.mono ?_
      clear hbd
      rintro e W4 ⟨v4, rfl, R4, b4, hex⟩
      have HR4 : Hid _ := R4
      have HB4 : Hid (Below w.heap.size w W4) := HB3.out.trans (b4.mono HB3.out.size)
      have HEx : Hid _ := hex
      generalize hre : S.resE 0 0 PP = re at *
      clear R4 b4 hex
      go_wp2
      go_ret2
      exact ⟨v4, by rw [hre]; rfl, HR4.out, HB4.out, fun _ _ => HEx.out trivial trivial⟩
    · go_wp2
      go_ret2
      exact ⟨.slice none 0 0, by unfold S.resE; simp [heb], by unfold S.resL; simp [heb]; exact S.Rd.nil _, HBW2.out, fun _ h => absurd h heb⟩
  · go_wp2
    go_ret2
    exact ⟨.slice none 0 0, by unfold S.resE; simp [hea], by unfold S.resL; simp [hea]; exact S.Rd.nil _, HBW1.out, fun h => absurd h hea⟩

set_option maxHeartbeats 2000000 in
theorem donot_any (w : World) (va vb : Value) (a b : List S.Sp) (Ra : S.Rd w va a) (Rb : S.Rd w vb b) (Fa : S.Fit a) :
    Calls Try.prog 22 #[.int .u8 94, va, vb] w (Tells w (S.wrongE a) 0 (S.notP a)) := by
  obtain ⟨aa, ca, rfl⟩ := Ra.len
  obtain ⟨ab, cb, rfl⟩ := Rb.len
  obtain ⟨W0, hW0⟩ : ∃ W0, W0 = ((w.alloc (.cells #[.int .u8 94] 5)).alloc (.cells #[.slice aa a.length ca] 22)).alloc (.cells #[.slice ab b.length cb] 22) := ⟨_, rfl⟩
  have hsize : W0.heap.size = w.heap.size + 3 := by rw [hW0]; simp
  have hbw : Below w.heap.size w W0 := by
    rw [hW0]; exact (((Below.refl _ w).alloc (Nat.le_refl _) _).alloc (by simp) _).alloc (by simp; omega) _
  have x1 : S.Bx W0 w.heap.size 5 (.int .u8 94) := by
    rw [hW0]
    exact ((S.Bx.new w _ _).below (B := w.heap.size + 1) ((Below.refl _ _).alloc (by simp) _) (by omega)).below (B := w.heap.size + 1) ((Below.refl _ _).alloc (by simp) _) (by omega)
  have x2 : S.Bx W0 (w.heap.size + 1) 22 (.slice aa a.length ca) := by
    rw [hW0]
    have h := S.Bx.new (w.alloc (.cells #[.int .u8 94] 5)) 22 (.slice aa a.length ca)
    rw [World.size_alloc] at h
    exact h.below (B := w.heap.size + 2) ((Below.refl _ _).alloc (by simp) _) (by omega)
  have x3 : S.Bx W0 (w.heap.size + 2) 22 (.slice ab b.length cb) := by
    rw [hW0]
    have h := S.Bx.new ((w.alloc (.cells #[.int .u8 94] 5)).alloc (.cells #[.slice aa a.length ca] 22)) 22 (.slice ab b.length cb)
    rw [World.size_alloc, World.size_alloc] at h
    exact h
  have HX : Hid (S.Bx W0 w.heap.size 5 (.int .u8 94) ∧ S.Bx W0 (w.heap.size + 1) 22 (.slice aa a.length ca) ∧ S.Bx W0 (w.heap.size + 2) 22 (.slice ab b.length cb) ∧ Below w.heap.size w W0 ∧ W0.heap.size = w.heap.size + 3) := ⟨x1, x2, x3, hbw, hsize⟩
  have HA : Hid (S.Rd W0 (.slice aa a.length ca) a) := Ra.below hbw (Nat.le_refl _)
  have HB : Hid (S.Rd W0 (.slice ab b.length cb) b) := Rb.below hbw (Nat.le_refl _)
  have hwa := refwrong_any W0 _ a HA.out Fa
  have e1 := x1.cell
  have e2 := x2.cell
  have e3 := x3.cell
  clear x1 x2 x3 hbw hsize Ra Rb
  generalize hPP : S.notP a = PP
  have HPP : Hid ((fun q => S.inR q && !S.memb a q) = PP) := hPP
  clear hPP
  generalize hea : S.wrongE a = ea at *
  have HEA : Hid (S.wrongE a = ea) := hea
  clear hea
  go_enter Try.func22, Try.ntmps22
  go_wp2_with fail
  rw [← hW0]
  clear hW0
  refine hwa.mono ?_
  clear hwa
  rintro e W1 ⟨rfl, b1⟩
  obtain ⟨x1, x2, x3, hbw, hsize⟩ := HX.out
  have HB1 : Hid (Below W0.heap.size W0 W1) := b1
  have hs1 := b1.size
  replace e1 : W1.cell? ⟨w.heap.size, 0, none⟩ = some (.int .u8 94) := (x1.below b1 (by omega)).cell
  replace e2 : W1.cell? ⟨w.heap.size + 1, 0, none⟩ = some (.slice aa a.length ca) := (x2.below b1 (by omega)).cell
  replace e3 : W1.cell? ⟨w.heap.size + 2, 0, none⟩ = some (.slice ab b.length cb) := (x3.below b1 (by omega)).cell
  have HBW1 : Hid (Below w.heap.size w W1) := hbw.trans (b1.mono (by omega))
  clear x1 x2 x3 hbw b1 hsize
  by_cases hea : ea = 0
  · subst hea
    have HB2 : Hid (Below W0.heap.size W0 W1) := HB1.out
    have hsz0 := HX.out.2.2.2.2
    have hw0 : w.heap.size + 3 ≤ W1.heap.size := by omega
    clear hsz0
    obtain ⟨la, na⟩ := S.wrongE_zero.1 HEA.out
    have HBa : Hid (∀ o, Below W1.heap.size W1 (W1.alloc o)) := fun o => (Below.refl _ W1).alloc (Nat.le_refl _) o
    have hbad : ∀ l ∈ [a], l.any S.bad = false := fun l hl => by
      simp at hl
      subst hl
      exact bad_none na
    have RA2 : Hid (S.Rd W1 (.slice aa a.length ca) a) := HA.out.below HB2.out (Nat.le_refl _)
    have hed := edges_any (W1.alloc (.cells #[.slice aa a.length ca] 22)) W1.heap.size [.slice aa a.length ca] [a] rfl (by simp) (fun i v h => one_cells2 W1 _ _ i v h) (fun i v l hv hl => by
      match i, hv, hl with
      | 0, hv, hl => simp at hv hl; subst hv; subst hl; exact RA2.out.below (HBa.out _) (Nat.le_refl _)
      | i + 1, hv, hl => simp at hv) hbad (fun l hl => by simp at hl; subst hl; omega)
    have HEd := edged_of hbad (fun q => !S.memb a q) (fun q r h => by rw [h a (by simp)])
    have hzl : (S.edgesF [a]).length ≤ 4194304 := by
      have h := (S.edgesF_spec hbad).2.2.2
      have h1 := edgesOf_len a
      simp only [List.flatMap_cons, List.flatMap_nil, List.append_nil] at h
      omega
    change Calls _ _ #[.slice (some ⟨W1.heap.size, 0, none⟩) 1 1] _ _ at hed
    have HEd' : Hid _ := HEd
    clear HEd hbad
    generalize S.edgesF [a] = zs at *
    have eg : ∀ args w, (callFunc 46 args).run Try.prog w = .ok (.enter 46 args) w := enters_of Try.func46 (by kernel_rfl) rfl
    go_wp2_with fail
    refine hed.mono ?_
    clear hed
    rintro e W3 ⟨v3, rfl, R3, b3⟩
    have hb3 : Below W1.heap.size W1 W3 := (HBa.out _).trans (b3.mono (by simp))
    have HB3 : Hid (Below w.heap.size w W3) := HBW1.out.trans (hb3.mono HBW1.out.size)
    have hs3 := hb3.size
    have f2 : W3.cell? ⟨w.heap.size + 1, 0, none⟩ = some (.slice aa a.length ca) := by rw [hb3.cell (p := ⟨w.heap.size + 1, 0, none⟩) (by show w.heap.size + 1 < _; omega)]; exact e2
    have hbd := build_any W3 v3 zs (fun q => !S.memb a q) 46 #[.pointer (some ⟨w.heap.size + 1, 0, none⟩)] R3 HEd'.out hzl eg
      (fun W r hW => do1h_any (w.heap.size + 1) _ a W3 W r (RA2.out.below hb3 (Nat.le_refl _)) (by omega) (by omega) f2 hW)
    rw [HPP.out] at hbd
    obtain ⟨a3, c3, rfl, _⟩ := R3
    clear hb3 b3 e1 e2 e3 f2 HEd'
    go_wp2_with fail
    refine hbd.mono ?_
    clear hbd
    rintro e W4 ⟨v4, rfl, R4, b4, hex⟩
    have HR4 : Hid _ := R4
    have HB4 : Hid (Below w.heap.size w W4) := HB3.out.trans (b4.mono HB3.out.size)
    have HEx : Hid _ := hex
    generalize hre : S.resE 0 0 PP = re at *
    clear R4 b4 hex
    go_wp2
    go_ret2
    exact ⟨v4, by rw [hre]; rfl, HR4.out, HB4.out, fun _ _ => HEx.out trivial trivial⟩
  · go_wp2
    go_ret2
    exact ⟨.slice none 0 0, by unfold S.resE; simp [hea], by unfold S.resL; simp [hea]; exact S.Rd.nil _, HBW1.out, fun h => absurd h hea⟩

end Go.Proofs.Ytginejblmkiamaa
