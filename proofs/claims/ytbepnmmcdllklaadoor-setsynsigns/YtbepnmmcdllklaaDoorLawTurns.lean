/-
  scriptlaw3.SetsynTurns answers true, for every slice of spans and every text of at most 2^40 bytes.
-/
import Derived.Test.YtbepnmmcdllklaaDoorTText
import Derived.Test.YtbepnmmcdllklaaDoorTPrint
import Derived.Test.YtbepnmmcdllklaaDoorTRead
import Derived.Test.YtbepnmmcdllklaaDoorTClass4
namespace Go.Proofs.YtbepnmmcdllklaaDoor
open Go.RowKit
set_option maxRecDepth 20000

theorem alive_text : M.rn { data := #[91, 97, 45, 99, 32, 101, 93] } = [91, 97, 45, 99, 32, 101, 93] := by
  have h : T.bytesR [91, 97, 45, 99, 32, 101, 93] = [91, 97, 45, 99, 32, 101, 93] := by decide
  have := T.rn_bytes (l := [91, 97, 45, 99, 32, 101, 93]) (by unfold T.rightL; decide)
  rw [h] at this
  exact this

set_option maxHeartbeats 2000000 in
theorem alive3_any (w : World) : Calls Tryd.prog 9 #[] w fun e w' => e = .returned (.bool true) ∧ Below w.heap.size w w' := by
  have hr := read_any class_ok { data := #[91, 97, 45, 99, 32, 101, 93] } (by decide) w
  rw [alive_text, T.read_alive] at hr
  go_enter Tryd.func9, Tryd.ntmps9
  go_wp2_with fail
  refine hr.mono ?_
  clear hr
  rintro e w1 ⟨v, rfl, ⟨R, _, _⟩, b1⟩
  have HB : Hid (Below w.heap.size w w1) := b1
  obtain ⟨ao, cap, rfl, _, hc⟩ := R
  obtain ⟨b, off, rfl, hcell⟩ := hc (by simp)
  have c0 := hcell 0 (97, 99) rfl
  have c1 := hcell 1 (101, 101) rfl
  have e1 := c0.1
  have e2 := c0.2
  have e3 := c1.1
  have hb := L.block_lt e1
  simp only [Nat.zero_mul, Nat.add_zero, Nat.one_mul] at e1 e2 e3
  have hne : b ≠ w1.heap.size := by omega
  clear c0 c1 hcell hc b1
  go_wp2
  go_ret
  exact ⟨rfl, HB.out.alloc HB.out.size _⟩

set_option maxHeartbeats 2000000 in
theorem back_any (w : World) (v : Value) (l : List S.Sp) (R : S.Rd w v l) (hn : S.Nf 0 l) (hl : l.length ≤ 200) (hT : T.Tz w) :
    Calls Tryd.prog 10 #[v] w fun e w' => e = .returned (.bool true) ∧ Below w.heap.size w w' := by
  have HR : Hid (S.Rd w v l) := R
  have hw : S.wrongE l = 0 := S.wrongE_zero.2 ⟨hl, hn⟩
  have hf : S.Fit l := S.Fit.of_nf hn (Int.le_refl _)
  have hpr := print_any w v l R hf hT
  have hpe : T.prE l = .tuple #[.string ⟨(T.prt l).toArray⟩, .int .i64 0] := by unfold T.prE; rw [hw]; rfl
  rw [hpe] at hpr
  have hsz : (⟨(T.prt l).toArray⟩ : ByteArray).size ≤ 1099511627776 := by
    show (T.prt l).toArray.size ≤ _
    have := inner_len (l := l) fun x hx => by have := hn.mem hx; omega
    simp [T.prt]; omega
  have hrd := fun w1 => read_any class_ok ⟨(T.prt l).toArray⟩ hsz w1
  rw [T.rn_prt] at hrd
  have HRd : Hid (∀ w1, Calls Tryd.prog 11 #[.string ⟨(T.prt l).toArray⟩] w1 (T.readE (T.read (T.prtR l)) w1)) := hrd
  generalize (⟨(T.prt l).toArray⟩ : ByteArray) = str at *
  obtain ⟨ao, cap, rfl⟩ := R.len
  clear R hrd hpe hsz hf
  by_cases h150 : 150 < l.length
  · go_enter Tryd.func10, Tryd.ntmps10
    go_wp2_with fail
    refine hpr.mono ?_
    clear hpr
    rintro e w1 ⟨rfl, b1⟩
    have HB1 : Hid (Below w.heap.size w w1) := b1
    clear b1
    go_wp2_with fail
    refine (HRd.out _).mono ?_
    rcases T.read (T.prtR l) with ⟨t, q⟩ | ⟨er, q⟩
    · rintro e w2 ⟨v2, rfl, ⟨R2, _, _⟩, b2⟩
      have HB2 : Hid (Below w.heap.size w w2) := HB1.out.trans (b2.mono HB1.out.size)
      obtain ⟨a2, c2, rfl⟩ := R2.len
      clear R2 b2
      go_wp2
      go_ret
      exact ⟨rfl, HB2.out.alloc HB2.out.size _⟩
    · rintro e w2 ⟨rfl, b2⟩
      have HB2 : Hid (Below w.heap.size w w2) := HB1.out.trans (b2.mono HB1.out.size)
      clear b2
      go_wp2
      go_ret
      exact ⟨rfl, HB2.out.alloc HB2.out.size _⟩
  · have hok := T.read_prt hn hl (by have := T.prtR_len hn; omega)
    rw [hok] at HRd
    go_enter Tryd.func10, Tryd.ntmps10
    go_wp2_with fail
    refine hpr.mono ?_
    clear hpr
    rintro e w1 ⟨rfl, b1⟩
    have HB1 : Hid (Below w.heap.size w w1) := b1
    clear b1
    go_wp2_with fail
    refine (HRd.out _).mono ?_
    rintro e w2 ⟨v2, rfl, ⟨R2, _, _⟩, b2⟩
    have HB2 : Hid (Below w.heap.size w w2) := HB1.out.trans (b2.mono HB1.out.size)
    have HR2 : Hid (S.Rd w2 v2 l) := R2
    obtain ⟨a2, c2, rfl⟩ := R2.len
    have HSm : Hid (∀ o, Calls Tryd.prog 12 #[.slice ao l.length cap, .slice a2 l.length c2] (w2.alloc o) fun e w' => e = .returned (.bool (decide (l = l))) ∧ Below (w2.alloc o).heap.size (w2.alloc o) w') := fun o =>
      same_any _ _ _ l l (HR.out.below (HB2.out.alloc HB2.out.size o) (Nat.le_refl _)) (HR2.out.below ((Below.refl _ w2).alloc (Nat.le_refl _) o) (Nat.le_refl _)) (by omega) (by omega)
    clear R2 b2
    go_wp2_with fail
    refine (HSm.out _).mono ?_
    rintro e w3 ⟨rfl, b3⟩
    have HB3 : Hid (Below w.heap.size w w3) := (HB2.out.alloc HB2.out.size _).trans (b3.mono (by have := HB2.out.size; simp; omega))
    clear b3
    go_wp2
    go_ret
    exact ⟨by simp, HB3.out⟩

set_option maxHeartbeats 4000000 in
theorem turns_any (w : World) (v : Value) (l : List S.Sp) (s : ByteArray) (R : S.Rd w v l) (hf : S.Fit l) (hs : s.size ≤ 1099511627776) (hT : T.Tz w) :
    Calls Tryd.prog 4 #[v, .string s] w fun e w' => e = .returned (.bool true) ∧ Below w.heap.size w w' := by
  have HR : Hid (S.Rd w v l) := R
  obtain ⟨ao, cap, rfl⟩ := R.len
  have HTz : Hid (T.Tz w) := hT
  have hlt := hT.lt
  clear R hT
  have eg : ∀ args w, (callFunc 10 args).run Tryd.prog w = .ok (.enter 10 args) w := enters_of Tryd.func10 (by kernel_rfl) rfl
  -- the second half
  have HSec : Hid (∀ w1, Below w.heap.size w w1 → T.Tz w1 ∧ Calls Tryd.prog 11 #[.string s] w1 (T.readE (T.read (M.rn s)) w1)) := fun w1 hb => ⟨HTz.out.below hb hlt, read_any class_ok s hs w1⟩
  go_enter Tryd.func4, Tryd.ntmps4
  go_wp2_with fail
  refine (alive3_any w).mono ?_
  rintro e w1 ⟨rfl, b1⟩
  have HB1 : Hid (Below w.heap.size w w1) := b1
  have R1 : Hid (S.Rd w1 (.slice ao l.length cap) l) := HR.out.below b1 (Nat.le_refl _)
  clear b1
  go_wp2_with fail
  refine (wrong_any _ _ l R1.out hf).mono ?_
  rintro e w2 ⟨rfl, b2⟩
  have HB2 : Hid (Below w.heap.size w w2) := HB1.out.trans (b2.mono HB1.out.size)
  have R2 : Hid (S.Rd w2 (.slice ao l.length cap) l) := HR.out.below HB2.out (Nat.le_refl _)
  clear b2
  by_cases hw : S.wrongE l = 0
  · have hn := S.wrongE_zero.1 hw
    rw [hw]
    go_wp2_with fail
    refine (back_any _ _ l R2.out hn.2 hn.1 (HSec.out w2 HB2.out).1).mono ?_
    rintro e w3 ⟨rfl, b3⟩
    have HB3 : Hid (Below w.heap.size w w3) := HB2.out.trans (b3.mono HB2.out.size)
    clear b3
    go_wp2_with fail
    refine ((HSec.out w3 HB3.out).2).mono ?_
    rcases T.read (M.rn s) with ⟨t, q⟩ | ⟨er, q⟩
    · rintro e w5 ⟨v5, rfl, ⟨R5, N5, L5⟩, b5⟩
      have HB5 : Hid (Below w.heap.size w w5) := HB3.out.trans (b5.mono HB3.out.size)
      obtain ⟨a5, c5, rfl⟩ := R5.len
      have HR5 : Hid (∀ o, S.Rd (w5.alloc o) (.slice a5 t.length c5) t) := fun o => R5.below ((Below.refl _ w5).alloc (Nat.le_refl _) o) (Nat.le_refl _)
      have HN5 : Hid (S.Nf 0 t) := N5
      have hf5 : S.Fit t := S.Fit.of_nf N5 (Int.le_refl _)
      have HW5 : Hid (∀ o, Calls Tryd.prog 13 #[.slice a5 t.length c5] (w5.alloc o) fun e w' => e = .returned (.int .i64 0) ∧ Below (w5.alloc o).heap.size (w5.alloc o) w') := fun o => by
        have h := wrong_any (w5.alloc o) _ t (HR5.out o) hf5
        rw [S.wrongE_zero.2 ⟨L5, N5⟩] at h
        exact h
      clear R5 b5 N5
      go_wp2_with fail
      refine (HW5.out _).mono ?_
      rintro e w6 ⟨rfl, b6⟩
      have HB6 : Hid (Below w.heap.size w w6) := (HB5.out.alloc HB5.out.size _).trans (b6.mono (by have := HB5.out.size; simp; omega))
      have HR6 : Hid (S.Rd w6 (.slice a5 t.length c5) t) := (HR5.out _).below b6 (Nat.le_refl _)
      clear b6 HW5
      go_wp2_with fail
      refine (back_any _ _ t HR6.out HN5.out L5 (HSec.out w6 HB6.out).1).mono ?_
      rintro e w7 ⟨rfl, b7⟩
      have HB7 : Hid (Below w.heap.size w w7) := HB6.out.trans (b7.mono HB6.out.size)
      clear b7
      go_wp2
      go_ret
      exact ⟨rfl, HB7.out⟩
    · rintro e w5 ⟨rfl, b5⟩
      have HB5 : Hid (Below w.heap.size w w5) := HB3.out.trans (b5.mono HB3.out.size)
      clear b5
      by_cases h0 : er = 0
      · subst h0
        have HW5 : Hid (∀ o, Calls Tryd.prog 13 #[.slice none 0 0] (w5.alloc o) fun e w' => e = .returned (.int .i64 0) ∧ Below (w5.alloc o).heap.size (w5.alloc o) w') := fun o => by
          have h := wrong_any (w5.alloc o) _ [] (S.Rd.nil _) (fun x hx => by cases hx)
          exact h
        go_wp2_with fail
        refine (HW5.out _).mono ?_
        rintro e w6 ⟨rfl, b6⟩
        have HB6 : Hid (Below w.heap.size w w6) := (HB5.out.alloc HB5.out.size _).trans (b6.mono (by have := HB5.out.size; simp; omega))
        clear b6 HW5
        go_wp2_with fail
        refine (back_any _ _ [] (S.Rd.nil _) trivial (Nat.zero_le _) (HSec.out w6 HB6.out).1).mono ?_
        rintro e w7 ⟨rfl, b7⟩
        have HB7 : Hid (Below w.heap.size w w7) := HB6.out.trans (b7.mono HB6.out.size)
        clear b7
        go_wp2
        go_ret
        exact ⟨rfl, HB7.out⟩
      · go_wp2
        go_ret
        exact ⟨rfl, HB5.out.alloc HB5.out.size _⟩
  · obtain ⟨z, hz⟩ : ∃ z, z = S.wrongE l := ⟨_, rfl⟩
    rw [← hz] at hw ⊢
    clear hz
    go_wp2_with fail
    refine ((HSec.out w2 HB2.out).2).mono ?_
    rcases T.read (M.rn s) with ⟨t, q⟩ | ⟨er, q⟩
    · rintro e w5 ⟨v5, rfl, ⟨R5, N5, L5⟩, b5⟩
      have HB5 : Hid (Below w.heap.size w w5) := HB2.out.trans (b5.mono HB2.out.size)
      obtain ⟨a5, c5, rfl⟩ := R5.len
      have HR5 : Hid (∀ o, S.Rd (w5.alloc o) (.slice a5 t.length c5) t) := fun o => R5.below ((Below.refl _ w5).alloc (Nat.le_refl _) o) (Nat.le_refl _)
      have HN5 : Hid (S.Nf 0 t) := N5
      have hf5 : S.Fit t := S.Fit.of_nf N5 (Int.le_refl _)
      have HW5 : Hid (∀ o, Calls Tryd.prog 13 #[.slice a5 t.length c5] (w5.alloc o) fun e w' => e = .returned (.int .i64 0) ∧ Below (w5.alloc o).heap.size (w5.alloc o) w') := fun o => by
        have h := wrong_any (w5.alloc o) _ t (HR5.out o) hf5
        rw [S.wrongE_zero.2 ⟨L5, N5⟩] at h
        exact h
      clear R5 b5 N5
      go_wp2_with fail
      refine (HW5.out _).mono ?_
      rintro e w6 ⟨rfl, b6⟩
      have HB6 : Hid (Below w.heap.size w w6) := (HB5.out.alloc HB5.out.size _).trans (b6.mono (by have := HB5.out.size; simp; omega))
      have HR6 : Hid (S.Rd w6 (.slice a5 t.length c5) t) := (HR5.out _).below b6 (Nat.le_refl _)
      clear b6 HW5
      go_wp2_with fail
      refine (back_any _ _ t HR6.out HN5.out L5 (HSec.out w6 HB6.out).1).mono ?_
      rintro e w7 ⟨rfl, b7⟩
      have HB7 : Hid (Below w.heap.size w w7) := HB6.out.trans (b7.mono HB6.out.size)
      clear b7
      go_wp2
      go_ret
      exact ⟨rfl, HB7.out⟩
    · rintro e w5 ⟨rfl, b5⟩
      have HB5 : Hid (Below w.heap.size w w5) := HB2.out.trans (b5.mono HB2.out.size)
      clear b5
      by_cases h0 : er = 0
      · subst h0
        have HW5 : Hid (∀ o, Calls Tryd.prog 13 #[.slice none 0 0] (w5.alloc o) fun e w' => e = .returned (.int .i64 0) ∧ Below (w5.alloc o).heap.size (w5.alloc o) w') := fun o => by
          have h := wrong_any (w5.alloc o) _ [] (S.Rd.nil _) (fun x hx => by cases hx)
          exact h
        go_wp2_with fail
        refine (HW5.out _).mono ?_
        rintro e w6 ⟨rfl, b6⟩
        have HB6 : Hid (Below w.heap.size w w6) := (HB5.out.alloc HB5.out.size _).trans (b6.mono (by have := HB5.out.size; simp; omega))
        clear b6 HW5
        go_wp2_with fail
        refine (back_any _ _ [] (S.Rd.nil _) trivial (Nat.zero_le _) (HSec.out w6 HB6.out).1).mono ?_
        rintro e w7 ⟨rfl, b7⟩
        have HB7 : Hid (Below w.heap.size w w7) := HB6.out.trans (b7.mono HB6.out.size)
        clear b7
        go_wp2
        go_ret
        exact ⟨rfl, HB7.out⟩
      · go_wp2
        go_ret
        exact ⟨rfl, HB5.out.alloc HB5.out.size _⟩

end Go.Proofs.YtbepnmmcdllklaaDoor
