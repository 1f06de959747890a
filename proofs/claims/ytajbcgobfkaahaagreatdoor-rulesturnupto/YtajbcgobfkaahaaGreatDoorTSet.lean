/-
  Sets in texts, part by part.
-/
import Derived.Test.YtajbcgobfkaahaaGreatDoorTChr
import Derived.Test.YtajbcgobfkaahaaGreatDoorTBlend
import Derived.Test.YtajbcgobfkaahaaGreatDoorSAlg
namespace Go.Proofs.YtajbcgobfkaahaaGreatDoor
open Go.RowKit

/-- a slice of spans stays while the cursor moves -/
theorem T.rd_cur {w w' : World} {cb tb cap p : Nat} {ao : Option Addr} {l : List Int} (C : T.Cur w cb tb cap ao l p) {v : Value} {s : List S.Sp} (R : S.Rd w v s) (hg : w.grownBy w' (some cb)) : S.Rd w' v s := by
  obtain ⟨vo, vc, rfl, hn, h⟩ := R
  refine ⟨vo, vc, rfl, hn, fun hz => ?_⟩
  obtain ⟨b, off, rfl, hcl⟩ := h hz
  have hne : b ≠ cb := by
    intro e
    subst e
    obtain ⟨x, hx⟩ : ∃ x, s[0]? = some x := ⟨s[0]'(List.length_pos_iff.2 hz), by simp [List.length_pos_iff.2 hz]⟩
    have h1 := (hcl 0 x hx).1
    rw [World.cell?] at h1
    obtain ⟨_, hbk⟩ := C.blk
    simp [hbk] at h1
    rcases hk : off with _ | _ | k
    · subst hk; simp at h1
    · subst hk; simp at h1
    · subst hk; simp at h1
  refine ⟨b, off, rfl, fun j x hj => ?_⟩
  have h1 := hcl j x hj
  constructor
  · rw [World.cell?_of_block (a := ⟨b, off + j * 2, none⟩) (hg.block b (L.block_lt h1.1) (by simp [hne]))]; exact h1.1
  · rw [World.cell?_of_block (a := ⟨b, off + j * 2 + 1, none⟩) (hg.block b (L.block_lt h1.2) (by simp [hne]))]; exact h1.2

/-- a right set of at most two hundred spans -/
def T.isSet (s : List S.Sp) (v : Value) (w : World) : Prop := S.Rd w v s ∧ S.Nf 0 s ∧ s.length ≤ 200

theorem T.isSet.cur {w w' : World} {cb tb cap p : Nat} {ao : Option Addr} {l : List Int} {s : List S.Sp} {v : Value} (h : T.isSet s v w) (C : T.Cur w cb tb cap ao l p) (hg : w.grownBy w' (some cb)) : T.isSet s v w' := ⟨T.rd_cur C h.1 hg, h.2⟩

/-- the same, no elder than F -/
def T.isSetF (F : Nat) (s : List S.Sp) (v : Value) (w : World) : Prop := T.isSet s v w ∧ S.Fresh F v

theorem made_ok_any (w : World) (cb : Nat) (v : Value) (ao : Option Addr) (n c : Nat) (hv : v = .slice ao n c) :
    Calls Tryz.prog 106 #[.pointer (some ⟨cb, 0, none⟩), v, .int .i64 0] w fun e w' => e = .returned v ∧ w' = w := by
  subst hv
  go_enter Tryz.func106, Tryz.ntmps106
  go_wp2
  go_ret
  exact ⟨rfl, rfl⟩
theorem made_bad_any (w : World) (cb tb cap p : Nat) (ao : Option Addr) (l : List Int) (C : T.Cur w cb tb cap ao l p) (v : Value) (e : Int) (he : e ≠ 0) (ao' : Option Addr) (n c : Nat) (hv : v = .slice ao' n c) :
    Calls Tryz.prog 106 #[.pointer (some ⟨cb, 0, none⟩), v, .int .i64 e] w fun e' w' => e' = T.thrown e p ∧ w' = w := by
  subst hv
  have c1 := C.cell1
  have he' : (e == 0) = false := by simp [he]
  clear C
  go_enter Tryz.func106, Tryz.ntmps106
  go_wp2_with (go_at_call 23; refine (fail_any _ e p).mono ?_; unfold T.thrown; rintro e' w1 ⟨rfl, rfl⟩)
  exact ⟨rfl, rfl, rfl⟩

/-- what an operator tells, made -/
theorem made_any (w : World) (cb tb cap p : Nat) (ao : Option Addr) (l : List Int) (C : T.Cur w cb tb cap ao l p) (P : Int → Bool) (hP : ∀ q, P q = (S.inR q && P q)) (v : Value) (R : S.Rd w v (S.resL 0 0 P)) (F : Nat) (hF : S.Fresh F v) :
    Calls Tryz.prog 106 #[.pointer (some ⟨cb, 0, none⟩), v, .int .i64 (S.resE 0 0 P)] w (T.Ends w cb tb cap ao l (T.made P p) (T.isSetF F)) := by
  obtain ⟨vo, vc, hv⟩ := R.len
  unfold T.made
  have hN := S.nf_ok hP
  by_cases h : 200 < (S.nf P).length
  · rw [if_pos h]
    have e5 : S.resE 0 0 P = 5 := by simp [S.resE, S.fewE, h]
    rw [e5]
    refine (made_bad_any w cb tb cap p ao l C v 5 (by decide) _ _ _ hv).mono ?_
    rintro e w' ⟨rfl, rfl⟩
    exact ⟨rfl, S.grown_refl _ _⟩
  · rw [if_neg h]
    have hle : (S.nf P).length ≤ 200 := by omega
    have e0 : S.resE 0 0 P = 0 := S.resE_ok hle
    rw [S.resL_ok hle] at R
    rw [e0]
    refine (made_ok_any w cb v _ _ _ hv).mono ?_
    rintro e w' ⟨rfl, rfl⟩
    exact ⟨v, rfl, ⟨⟨R, hN.1, hle⟩, hF⟩, C, S.grown_refl _ _⟩

end Go.Proofs.YtajbcgobfkaahaaGreatDoor
