/-
  What the document's Of tells of any spans.
-/
import Derived.Test.YtdmpmkcigjkilaaSOfH
namespace Go.Proofs.Ytdmpmkcigjkilaa
open Go.RowKit

set_option maxHeartbeats 2000000 in
theorem refof_any (w : World) (v : Value) (l : List S.Sp) (R : S.Rd w v l) (F : S.Fit l) (hl : l.length ≤ 17592186043904) :
    Calls Try.prog 57 #[v] w (Tells w (if l.any S.bad = true then 3 else 0) 0 fun q => S.inR q && S.memb l q) := by
  obtain ⟨ao, cap, rfl⟩ := R.len
  have HR : Hid (S.Rd w (.slice ao l.length cap) l) := R
  obtain ⟨ao', cap', he, _, hc⟩ := R
  simp only [Value.slice.injEq] at he
  obtain ⟨rfl, _, rfl⟩ := he
  obtain ⟨W0, hW0⟩ : ∃ W0, W0 = w.alloc (.cells #[.slice ao l.length cap] 23) := ⟨_, rfl⟩
  have x0 : S.Bx W0 w.heap.size 23 (.slice ao l.length cap) := by rw [hW0]; exact S.Bx.new w _ _
  have hb0 : Below w.heap.size w W0 := by rw [hW0]; exact (Below.refl _ w).alloc (Nat.le_refl _) _
  have hs0 : W0.heap.size = w.heap.size + 1 := by rw [hW0]; simp
  have HX : Hid (S.Bx W0 w.heap.size 23 (.slice ao l.length cap) ∧ Below w.heap.size w W0 ∧ W0.heap.size = w.heap.size + 1) := ⟨x0, hb0, hs0⟩
  have e0 := x0.cell
  clear x0 hb0 hs0
  generalize hPP : (fun q => S.inR q && S.memb l q) = PP
  have HPP : Hid ((fun q => S.inR q && S.memb l q) = PP) := hPP
  clear hPP
  generalize hea : (if l.any S.bad = true then (3 : Int) else 0) = ea
  have HEA : Hid ((if l.any S.bad = true then (3 : Int) else 0) = ea) := hea
  clear hea
  go_enter Try.func57, Try.ntmps57
  go_wp2
  go_loopw [8] (fun i wr => ∃ k : Nat, k ≤ l.length ∧ i = .int .i64 k ∧ Hid ((l.take k).any S.bad = false) ∧ Hid (Below W0.heap.size W0 wr)) (fun i _ => l.length - (intOf i).toNat)
  case atStart => exact ⟨0, Nat.zero_le _, rfl, by show (l.take 0).any S.bad = false; simp, by show Below _ _ _; rw [hW0]; exact Below.refl _ _⟩
  case round =>
    obtain ⟨k, hk, rfl, HW, HB⟩ := hrel
    clear hW0
    have hsz := HB.out.size
    have HBw : Hid (Below w.heap.size w wr) := HX.out.2.1.trans (HB.out.mono (by have := HX.out.2.2; omega))
    by_cases hlt : k < l.length
    · obtain ⟨b, off, rfl, hcell⟩ := hc (by intro h; subst h; simp at hlt)
      obtain ⟨x, hx⟩ : ∃ x, l[k]? = some x := ⟨l[k], by simp [hlt]⟩
      have c0 := hcell k x hx
      have hb := L.block_lt c0.1
      have c1 := c0.1
      have c2 := c0.2
      rw [← HBw.out.cell (p := ⟨b, _, none⟩) hb] at c1 c2
      have HX2 : Hid (l[k]? = some x) := hx
      have HBa : Hid (∀ o, Below W0.heap.size W0 (wr.alloc o)) := fun o => HB.out.alloc hsz o
      have HBwa : Hid (∀ o, Below w.heap.size w (wr.alloc o)) := fun o => HBw.out.alloc HBw.out.size o
      have fx := F.at hx
      have HBadY : Hid (S.bad x = true → l.any S.bad = true) := fun h => List.any_eq_true.2 ⟨x, List.mem_of_getElem? hx, h⟩
      have HBadN : Hid (S.bad x = false → (l.take (k + 1)).any S.bad = false) := fun h => by
        rw [List.take_add_one, hx, List.any_append, HW.out]
        simp [h]
      obtain ⟨x1, x2⟩ := x
      simp only at c1 c2 fx
      clear c0 hx hcell
      by_cases h1 : x1 < 0
      · go_wp2
        go_ret2
        have e := HBadY.out (by simp [S.bad, h1])
        have e3 : ea = 3 := by rw [← HEA.out, e]; rfl
        subst e3
        exact ⟨.slice none 0 0, by unfold S.resE; simp, by unfold S.resL; simp; exact S.Rd.nil _, HBwa.out _, fun h => absurd h (by decide)⟩
      · by_cases h2 : x2 < x1
        · go_wp2
          go_ret2
          have e := HBadY.out (by simp [S.bad, h2])
          have e3 : ea = 3 := by rw [← HEA.out, e]; rfl
          subst e3
          exact ⟨.slice none 0 0, by unfold S.resE; simp, by unfold S.resL; simp; exact S.Rd.nil _, HBwa.out _, fun h => absurd h (by decide)⟩
        · by_cases h3 : 1114111 < x2
          · go_wp2
            go_ret2
            have e := HBadY.out (by simp [S.bad, h3])
            have e3 : ea = 3 := by rw [← HEA.out, e]; rfl
            subst e3
            exact ⟨.slice none 0 0, by unfold S.resE; simp, by unfold S.resL; simp; exact S.Rd.nil _, HBwa.out _, fun h => absurd h (by decide)⟩
          · go_wp2
            go_roundw
            case rel => exact ⟨k + 1, by omega, by go_num, HBadN.out (S.bad_false.2 ⟨by simp only; omega, by simp only; omega, by simp only; omega⟩), HBa.out _⟩
            case measure => simp [intOf]; omega
    · have hno : l.any S.bad = false := by
        have h := HW.out
        rw [List.take_of_length_le (by omega)] at h
        exact h
      have hs1 := HX.out.2.2
      have e1 : wr.cell? ⟨w.heap.size, 0, none⟩ = some (.slice ao l.length cap) := (HX.out.1.below HB.out (by omega)).cell
      have hw1 : w.heap.size < wr.heap.size := by omega
      have R1 : Hid (S.Rd wr (.slice ao l.length cap) l) := HR.out.below HBw.out (Nat.le_refl _)
      have hbad : ∀ m ∈ [l], m.any S.bad = false := fun m hm => by simp at hm; subst hm; exact hno
      have hab : Hid (∀ o, Below wr.heap.size wr (wr.alloc o)) := fun o => (Below.refl _ wr).alloc (Nat.le_refl _) o
      have hed := edges_any (wr.alloc (.cells #[.slice ao l.length cap] 23)) wr.heap.size [.slice ao l.length cap] [l] rfl (by simp) (fun i v h => one_cells2 wr _ _ i v h) (fun i v m hv hm => by
        match i, hv, hm with
        | 0, hv, hm => simp at hv hm; subst hv; subst hm; exact R1.out.below (hab.out _) (Nat.le_refl _)
        | i + 1, hv, hm => simp at hv) hbad (fun m hm => by simp at hm; subst hm; omega)
      have HEd := edged_of hbad (fun q => S.memb l q) (fun q r h => by rw [h l (by simp)])
      have hzl : (S.edgesF [l]).length ≤ 4194304 := by
        have h := S.edgesF_len hbad
        omega
      change Calls _ _ #[.slice (some ⟨wr.heap.size, 0, none⟩) 1 1] _ _ at hed
      have HEd' : Hid _ := HEd
      have HNo : Hid (l.any S.bad = false) := hno
      clear HEd hbad hno hs1
      generalize S.edgesF [l] = zs at *
      have eg : ∀ args w, (callFunc 94 args).run Try.prog w = .ok (.enter 94 args) w := enters_of Try.func94 (by kernel_rfl) rfl
      go_wp2_with fail
      refine hed.mono ?_
      clear hed
      rintro e W3 ⟨v3, rfl, R3, b3⟩
      have hb3 : Below wr.heap.size wr W3 := (hab.out _).trans (b3.mono (by simp))
      have HB3 : Hid (Below w.heap.size w W3) := HBw.out.trans (hb3.mono HBw.out.size)
      have hs3 := hb3.size
      have f1 : W3.cell? ⟨w.heap.size, 0, none⟩ = some (.slice ao l.length cap) := by rw [hb3.cell (p := ⟨w.heap.size, 0, none⟩) hw1]; exact e1
      have hbd := build_any W3 v3 zs (fun q => S.memb l q) 94 #[.pointer (some ⟨w.heap.size, 0, none⟩)] R3 HEd'.out hzl eg
        (fun W r hW => of1h_any w.heap.size _ l W3 W r (R1.out.below hb3 (Nat.le_refl _)) (by omega) (by omega) f1 hW)
      rw [HPP.out] at hbd
      obtain ⟨a3, c3, rfl, _⟩ := R3
      clear hb3 b3 e1 f1 HEd'
      go_wp2_with fail
      refine hbd.mono ?_
      clear hbd
      rintro e W4 ⟨v4, rfl, R4, b4, hex⟩
      have HR4 : Hid _ := R4
      have HB4 : Hid (Below w.heap.size w W4) := HB3.out.trans (b4.mono HB3.out.size)
      have HEx : Hid _ := hex
      generalize hre : S.resE 0 0 PP = re at *
      clear R4 b4 hex
      go_wp2
      go_ret2
      have e3 : ea = 0 := by rw [← HEA.out, HNo.out]; rfl
      subst e3
      exact ⟨v4, by rw [hre]; rfl, HR4.out, HB4.out, fun _ _ => HEx.out trivial trivial⟩

end Go.Proofs.Ytdmpmkcigjkilaa
