/-
  The operators, as the statement on algebra calls them: of right sets that make none too large.
-/
import Derived.Test.YtginejblmkiamaaSAlive
namespace Go.Proofs.Ytginejblmkiamaa
open Go.RowKit

/-- a right set of at most n spans -/
def Ok (l : List S.Sp) (n : Nat) : Prop := S.Nf 0 l ∧ l.length ≤ n
theorem Ok.fit {l : List S.Sp} {n : Nat} (h : Ok l n) : S.Fit l := S.Fit.of_nf h.1 (Int.le_refl _)
theorem Ok.wrong {l : List S.Sp} {n : Nat} (h : Ok l n) (hn : n ≤ 200) : S.wrongE l = 0 := S.wrong_ok h.1 (Nat.le_trans h.2 hn)
theorem Ok.U {a b : List S.Sp} {n m : Nat} (ha : Ok a n) (hb : Ok b m) : Ok (S.U a b) (n + m) := ⟨S.U_nf a b, by have := S.U_len ha.1 hb.1; have := ha.2; have := hb.2; omega⟩
theorem Ok.I {a b : List S.Sp} {n m : Nat} (ha : Ok a n) (hb : Ok b m) : Ok (S.I a b) (n + m) := ⟨S.I_nf a b, by have := S.I_len (b := b) ha.1; have := ha.2; have := hb.2; omega⟩
theorem Ok.C {a : List S.Sp} {n : Nat} (ha : Ok a n) : Ok (S.C a) (n + 1) := ⟨S.C_nf a, by have := S.C_len a; have := ha.2; omega⟩
theorem D_len {a b : List S.Sp} {n m : Nat} (ha : Ok a n) (hb : Ok b m) : (S.D a b).length ≤ n + (m + 1) := by rw [S.D_C]; exact (ha.I hb.C).2

/-- a call that hands a set back -/
def Gives (W : World) (s : List S.Sp) (e : Ending) (w' : World) : Prop := ∃ ao n c, e = .returned (.slice ao n c) ∧ S.Rd w' (.slice ao n c) s ∧ Below W.heap.size W w'

set_option maxHeartbeats 400000 in
theorem or_step (W : World) (va vb : Value) (a b : List S.Sp) (n m : Nat) (Ra : S.Rd W va a) (Rb : S.Rd W vb b) (ha : Ok a n) (hb : Ok b m) (hn : n + m ≤ 200) : Calls Try.prog 29 #[va, vb] W (Gives W (S.U a b)) := by
  have h := union_any W va vb a b Ra Rb ha.fit hb.fit
  rw [ha.wrong (by omega), hb.wrong (by omega)] at h
  have hl : (S.nf (S.orP a b)).length ≤ 200 := Nat.le_trans (ha.U hb).2 hn
  obtain ⟨aa, ca, rfl⟩ := Ra.len
  obtain ⟨ab, cb, rfl⟩ := Rb.len
  go_enter Try.func29, Try.ntmps29
  go_wp2_with fail
  refine h.mono ?_
  clear h Ra Rb ha hb
  rintro e w1 ⟨v1, rfl, R1, B1, _⟩
  rw [S.resL_ok hl] at R1
  rw [S.resE_ok hl]
  obtain ⟨a1, c1, rfl⟩ := R1.len
  have HR : Hid _ := R1
  clear R1 hl
  go_wp2
  go_ret
  exact ⟨_, _, _, rfl, HR.out, B1⟩

set_option maxHeartbeats 400000 in
theorem and_step (W : World) (va vb : Value) (a b : List S.Sp) (n m : Nat) (Ra : S.Rd W va a) (Rb : S.Rd W vb b) (ha : Ok a n) (hb : Ok b m) (hn : n + m ≤ 200) : Calls Try.prog 30 #[va, vb] W (Gives W (S.I a b)) := by
  have h := meet_any W va vb a b Ra Rb ha.fit hb.fit
  rw [ha.wrong (by omega), hb.wrong (by omega)] at h
  have hl : (S.nf (S.andP a b)).length ≤ 200 := Nat.le_trans (ha.I hb).2 hn
  obtain ⟨aa, ca, rfl⟩ := Ra.len
  obtain ⟨ab, cb, rfl⟩ := Rb.len
  go_enter Try.func30, Try.ntmps30
  go_wp2_with fail
  refine h.mono ?_
  clear h Ra Rb ha hb
  rintro e w1 ⟨v1, rfl, R1, B1, _⟩
  rw [S.resL_ok hl] at R1
  rw [S.resE_ok hl]
  obtain ⟨a1, c1, rfl⟩ := R1.len
  have HR : Hid _ := R1
  clear R1 hl
  go_wp2
  go_ret
  exact ⟨_, _, _, rfl, HR.out, B1⟩

set_option maxHeartbeats 400000 in
theorem not_step (W : World) (va : Value) (a : List S.Sp) (n : Nat) (Ra : S.Rd W va a) (ha : Ok a n) (hn : n + 1 ≤ 200) : Calls Try.prog 28 #[va] W (Gives W (S.C a)) := by
  have h := not_any W va a Ra ha.fit
  rw [ha.wrong (by omega)] at h
  have hl : (S.nf (S.notP a)).length ≤ 200 := Nat.le_trans ha.C.2 hn
  obtain ⟨aa, ca, rfl⟩ := Ra.len
  go_enter Try.func28, Try.ntmps28
  go_wp2_with fail
  refine h.mono ?_
  clear h Ra ha
  rintro e w1 ⟨v1, rfl, R1, B1, _⟩
  rw [S.resL_ok hl] at R1
  rw [S.resE_ok hl]
  obtain ⟨a1, c1, rfl⟩ := R1.len
  have HR : Hid _ := R1
  clear R1 hl
  go_wp2
  go_ret
  exact ⟨_, _, _, rfl, HR.out, B1⟩

theorem same_true (W : World) (va vb : Value) (a b : List S.Sp) (Ra : S.Rd W va a) (Rb : S.Rd W vb b) (e : a = b) (hl : b.length ≤ 200) : Calls Try.prog 12 #[va, vb] W fun e w' => e = .returned (.bool true) ∧ Below W.heap.size W w' := by
  subst e
  have h := same_any W va vb a a Ra Rb (by omega) (by omega)
  simpa using h

end Go.Proofs.Ytginejblmkiamaa
