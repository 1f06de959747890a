/-
  Runes that are sorted: the one in the midst of three.
-/
import Derived.Test.YtnalcmlhfmgfdaaZPivot
namespace Go.Proofs.Ytnalcmlhfmgfdaa
open Go.RowKit Go.Sort
set_option maxRecDepth 20000
set_option linter.unusedSimpArgs false
set_option linter.unusedVariables false

theorem zorder2_two (w0 w : World) (blk off cap a b sb : Nat) (d : Array Int) (hH : Holds Z.en w0 blk off d) (ha : a < d.size) (hb : b < d.size) (hsz : d.size < 1152921504606846976) (hne : ¬ blk = sb) (hs : Z.Sb sb w0 w) :
    Calls Try.prog 96 #[.slice (some ⟨blk, off, none⟩) d.size cap, .int .i64 a, .int .i64 b, .pointer (some ⟨sb, 0, none⟩)] w fun e w' => ∃ x y : Nat, (x = a ∧ y = b ∨ x = b ∧ y = a) ∧ e = .returned (.tuple #[.int .i64 x, .int .i64 y]) ∧ Z.Sb sb w0 w' := by
  obtain ⟨s, hs4⟩ := hs.2.2.2
  refine (zorder2_any w blk off cap a b sb s d (hs.holds hH hne) ha hb hsz hne hs4).mono ?_
  rintro e w' ⟨h | h, h2⟩
  · exact ⟨a, b, .inl ⟨rfl, rfl⟩, h, hs.trans h2⟩
  · exact ⟨b, a, .inr ⟨rfl, rfl⟩, h, hs.trans h2⟩

set_option maxHeartbeats 2000000 in
theorem zmedian_any (w0 w : World) (blk off cap a b c sb : Nat) (d : Array Int) (hH : Holds Z.en w0 blk off d) (ha : a < d.size) (hb : b < d.size) (hc : c < d.size) (hsz : d.size < 1152921504606846976) (hne : ¬ blk = sb) (hs : Z.Sb sb w0 w) :
    Calls Try.prog 93 #[.slice (some ⟨blk, off, none⟩) d.size cap, .int .i64 a, .int .i64 b, .int .i64 c, .pointer (some ⟨sb, 0, none⟩)] w fun e w' => ∃ x : Nat, (x = a ∨ x = b ∨ x = c) ∧ e = .returned (.int .i64 x) ∧ Z.Sb sb w0 w' := by
  have HH : Hid (Holds Z.en w0 blk off d) := hH
  have HS : Hid (Z.Sb sb w0 w) := hs
  clear hH hs
  go_enter Try.func93, Try.ntmps93
  go_wp2_with fail
  go_at_call 96
  refine Calls.mono (zorder2_two w0 _ blk off cap a b sb d HH.out ha hb hsz hne ?_) ?_
  · first | exact HS.out | exact HS.out.drew _
  rintro _ w1 ⟨a1, b1, h1, rfl, hs1⟩
  have HS1 : Hid (Z.Sb sb w0 w1) := hs1
  have ha1 : a1 < d.size := by omega
  have hb1 : b1 < d.size := by omega
  have H1 : Hid (a1 = a ∧ b1 = b ∨ a1 = b ∧ b1 = a) := h1
  clear hs1 h1 HS
  go_wp2_with fail
  go_at_call 96
  refine Calls.mono (zorder2_two w0 _ blk off cap b1 c sb d HH.out hb1 hc hsz hne ?_) ?_
  · first | exact HS1.out | exact HS1.out.drew _
  rintro _ w2 ⟨b2, c2, h2, rfl, hs2⟩
  have HS2 : Hid (Z.Sb sb w0 w2) := hs2
  have hb2 : b2 < d.size := by omega
  have H2 : Hid (b2 = b1 ∧ c2 = c ∨ b2 = c ∧ c2 = b1) := h2
  clear hs2 h2 HS1
  go_wp2_with fail
  go_at_call 96
  refine Calls.mono (zorder2_two w0 _ blk off cap a1 b2 sb d HH.out ha1 hb2 hsz hne ?_) ?_
  · first | exact HS2.out | exact HS2.out.drew _
  rintro _ w3 ⟨a3, b3, h3, rfl, hs3⟩
  have HS3 : Hid (Z.Sb sb w0 w3) := hs3
  have H3 : Hid (a3 = a1 ∧ b3 = b2 ∨ a3 = b2 ∧ b3 = a1) := h3
  clear hs3 h3 HS2
  go_wp2
  refine bodyPost_ret (v := .int .i64 b3) (by simp [results, Try.results93, go_sem, *]) rfl ?_
  have e1 := H1.out
  have e2 := H2.out
  have e3 := H3.out
  exact ⟨b3, by omega, rfl, HS3.out⟩

set_option maxHeartbeats 2000000 in
theorem zadjacent_any (w0 w : World) (blk off cap a sb : Nat) (d : Array Int) (hH : Holds Z.en w0 blk off d) (ha : 1 ≤ a ∧ a + 1 < d.size) (hsz : d.size < 1152921504606846976) (hne : ¬ blk = sb) (hs : Z.Sb sb w0 w) :
    Calls Try.prog 92 #[.slice (some ⟨blk, off, none⟩) d.size cap, .int .i64 a, .pointer (some ⟨sb, 0, none⟩)] w fun e w' => ∃ x : Nat, (a ≤ x + 1 ∧ x ≤ a + 1) ∧ e = .returned (.int .i64 x) ∧ Z.Sb sb w0 w' := by
  have HH : Hid (Holds Z.en w0 blk off d) := hH
  have HS : Hid (Z.Sb sb w0 w) := hs
  clear hH hs
  obtain ⟨p, hp⟩ : ∃ p, p + 1 ≤ a ∧ a ≤ p + 1 := ⟨a - 1, by omega⟩
  obtain ⟨q, hq⟩ : ∃ q, a + 1 ≤ q ∧ q ≤ a + 1 := ⟨a + 1, by omega⟩
  go_enter Try.func92, Try.ntmps92
  go_wp2_with fail
  rw [show ((a : Int) - 1) = (p : Int) by omega, show ((a : Int) + 1) = (q : Int) by omega]
  go_at_call 93
  refine Calls.mono (zmedian_any w0 _ blk off cap p a q sb d HH.out (by omega) (by omega) (by omega) hsz hne ?_) ?_
  · first | exact HS.out | exact HS.out.drew _
  rintro _ w1 ⟨x, h1, rfl, hs1⟩
  have HS1 : Hid (Z.Sb sb w0 w1) := hs1
  have H1 : Hid (a ≤ x + 1 ∧ x ≤ a + 1) := by show _ ∧ _; omega
  clear hs1 h1 HS
  go_wp2
  refine bodyPost_ret (v := .int .i64 x) (by simp [results, Try.results92, go_sem, *]) rfl ?_
  exact ⟨x, H1.out, rfl, HS1.out⟩

end Go.Proofs.Ytnalcmlhfmgfdaa
