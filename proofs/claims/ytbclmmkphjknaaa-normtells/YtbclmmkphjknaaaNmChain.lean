/-
  append(append(append([]rune{}, out[:k]...), x), out[k:]...), in each order that Go may take.
-/
import Derived.Test.YtbclmmkphjknaaaNmPart
import Derived.Test.YtbclmmkphjknaaaNmRuns
namespace Go.Proofs.Ytbclmmkphjknaaa.Nm
open Go.RowKit
set_option linter.unusedSimpArgs false
set_option linter.unusedVariables false

/-- one append -/
theorem ap {W : World} {F : Nat} {v : Value} {t : List Int} (own : W.ownsRow F 21 1 v t.length (K.ints t)) {vx : Value} {zs : List Int} (hx : L.Rd W vx .i32 zs) (hl : t.length + zs.length ≤ 1000000) (hF : F ≤ W.heap.size) :
    ∃ v' w', (∀ ty, (Builtin.append_ #[22, 22] ty #[v, vx]).run Try.prog W = .ok v' w') ∧ w'.ownsRow F 21 1 v' (t ++ zs).length (K.ints (t ++ zs)) ∧ (∀ b, b < W.heap.size → v.ownBlock ≠ some b → w'.heap[b]? = W.heap[b]?) ∧ W.heap.size ≤ w'.heap.size ∧ Below F W w' ∧ (v'.ownBlock = v.ownBlock ∨ ∃ k, v'.ownBlock = some k ∧ W.heap.size ≤ k) := by
  obtain ⟨v', w', run, own', gr, hn⟩ := K.app_rd W F v t own vx zs hx (by omega) hF
  exact ⟨v', w', run, own', kept_of gr, gr.size, (Below.refl _ W).grown gr hF fun k hk => (own.lt k hk).1, hn⟩
/-- the parts of a row of one's own, as slices of it -/
def sB (xo : Option Addr) (N xc k : Nat) : Value := .slice (if xc = k then xo else Option.map (fun x : Addr => x.add k) xo) (N - k) (xc - k)
theorem parts {W : World} {F N xc : Nat} {xo : Option Addr} {A B : List Int} (h : W.ownsRow F 21 1 (.slice xo N xc) N (K.ints (A ++ B))) :
    L.Rd W (.slice xo A.length xc) .i32 A ∧ L.Rd W (sB xo N xc A.length) .i32 B := by
  have hN : N = A.length + B.length := by
    have := h.1
    simp [K.ints] at this
    omega
  rcases h.2 with ⟨e, h0⟩ | ⟨g, cap, cur, e, hg, hb, hn, hm, hs, ht⟩
  · have e1 := e
    simp only [Value.slice.injEq] at e1
    obtain ⟨rfl, -, rfl⟩ := e1
    have hA : A = [] := List.eq_nil_of_length_eq_zero (by omega)
    have hB : B = [] := List.eq_nil_of_length_eq_zero (by omega)
    subst hA hB
    exact ⟨⟨none, 0, rfl, fun _ => rfl, fun h => absurd rfl h⟩, ⟨none, 0, by unfold sB; simp [h0], fun _ => rfl, fun h => absurd rfl h⟩⟩
  · have e1 := e
    simp only [Value.slice.injEq] at e1
    obtain ⟨rfl, -, rfl⟩ := e1
    have hc : ∀ j z, (A ++ B)[j]? = some z → W.cell? ⟨g, j, none⟩ = some (.int .i32 z) := fun j z hj => by
      have := h.cells (g := g) rfl j (.int .i32 z) (by unfold K.ints; rw [List.getElem?_map, hj]; rfl)
      rwa [L.addr_add, Nat.zero_add] at this
    refine ⟨⟨_, _, rfl, fun e => by (cases e), fun _ => ⟨g, 0, rfl, fun j z hj => by
      rw [Nat.zero_add]
      exact hc j z (by rw [List.getElem?_append_left (List.getElem?_eq_some_iff.1 hj).1]; exact hj)⟩⟩, ?_⟩
    unfold sB
    by_cases hk : xc = A.length
    · have hB : B = [] := List.eq_nil_of_length_eq_zero (by omega)
      subst hB
      rw [if_pos hk]
      exact ⟨_, _, by rw [show N - A.length = ([] : List Int).length by simp at hN ⊢; omega], fun e => by (cases e), fun h => absurd rfl h⟩
    · rw [if_neg hk, Option.map_some, L.addr_add, Nat.zero_add]
      exact ⟨_, _, by rw [show N - A.length = B.length by omega], fun e => by (cases e), fun _ => ⟨g, A.length, rfl, fun j z hj => hc _ z (by rw [List.getElem?_append_right (by omega), Nat.add_sub_cancel_left]; exact hj)⟩⟩
/-- where the empty slice is laid ahead of the first append, the rune's too -/
theorem chain {W : World} {F G N xc eb xb : Nat} {xo : Option Addr} {A B : List Int} {x : Int} (hO : W.ownsRow G 21 1 (.slice xo N xc) N (K.ints (A ++ B))) (hE : W.ownsRow F 21 1 (.slice (some ⟨eb, 0, none⟩) 0 0) ([] : List Int).length (K.ints []))
    (hx : W.cell? ⟨xb, 0, none⟩ = some (.int .i32 x)) (hne : xb ≠ eb) (ho : ∀ b, (Value.slice xo N xc).ownBlock = some b → b < W.heap.size ∧ b ≠ eb) (hF : F ≤ W.heap.size) (hl : N ≤ 100000) :
    ∃ v1 w1 v2 w2 v3 w3, (∀ ty, (Builtin.append_ #[22, 22] ty #[.slice (some ⟨eb, 0, none⟩) 0 0, .slice xo A.length xc]).run Try.prog W = .ok v1 w1) ∧ (∀ ty, (Builtin.append_ #[22, 22] ty #[v1, .slice (some ⟨xb, 0, none⟩) 1 1]).run Try.prog w1 = .ok v2 w2) ∧ (∀ ty, (Builtin.append_ #[22, 22] ty #[v2, sB xo N xc A.length]).run Try.prog w2 = .ok v3 w3) ∧ w3.ownsRow F 21 1 v3 (A ++ x :: B).length (K.ints (A ++ x :: B)) ∧ Below F W w3 := by
  have hN : N = A.length + B.length := by
    have := hO.1
    simp [K.ints] at this
    omega
  have hxl := L.block_lt hx
  obtain ⟨v1, w1, r1, o1, k1, s1, b1, n1⟩ := ap hE (parts hO).1 (by simp; omega) hF
  rw [List.nil_append] at o1
  have hv0 : (Value.slice (some ⟨eb, 0, none⟩) 0 0).ownBlock = some eb := rfl
  have hx1 : w1.cell? ⟨xb, 0, none⟩ = some (.int .i32 x) := (cell_eq (k1 xb hxl (by rw [hv0]; exact fun e => hne (Option.some.inj e).symm))).trans hx
  have hO1 : w1.ownsRow G 21 1 (.slice xo N xc) N (K.ints (A ++ B)) := Al.held hO fun q hq hlt => k1 q hlt (by rw [hv0]; exact fun e => (ho q hq).2 (Option.some.inj e).symm)
  obtain ⟨v2, w2, r2, o2, k2, s2, b2, n2⟩ := ap o1 (rd1 hx1) (by simp; omega) (Nat.le_trans hF s1)
  have hnb : ∀ q, (Value.slice xo N xc).ownBlock = some q → q < w1.heap.size ∧ v1.ownBlock ≠ some q := fun q hq => by
    obtain ⟨h1, h2⟩ := ho q hq
    refine ⟨by omega, fun e => ?_⟩
    rcases n1 with n1 | ⟨k, n1, h3⟩
    · rw [n1, hv0] at e; exact h2 (Option.some.inj e).symm
    · rw [n1] at e; have := Option.some.inj e; omega
  have hO2 : w2.ownsRow G 21 1 (.slice xo N xc) N (K.ints (A ++ B)) := Al.held hO1 fun q hq hlt => k2 q hlt (hnb q hq).2
  obtain ⟨v3, w3, r3, o3, k3, s3, b3, n3⟩ := ap o2 (parts hO2).2 (by simp; omega) (Nat.le_trans hF (Nat.le_trans s1 s2))
  refine ⟨v1, w1, v2, w2, v3, w3, r1, r2, r3, ?_, b1.trans (b2.trans b3)⟩
  have e : A ++ x :: B = A ++ [x] ++ B := by simp
  rw [e]; exact o3
/-- where the rune's slice is laid behind the first append -/
theorem chain3 {W : World} {F G N xc eb : Nat} {xo : Option Addr} {A B : List Int} {x : Int} (hO : W.ownsRow G 21 1 (.slice xo N xc) N (K.ints (A ++ B))) (hE : W.ownsRow F 21 1 (.slice (some ⟨eb, 0, none⟩) 0 0) ([] : List Int).length (K.ints []))
    (ho : ∀ b, (Value.slice xo N xc).ownBlock = some b → b < W.heap.size ∧ b ≠ eb) (hF : F ≤ W.heap.size) (hl : N ≤ 100000) :
    ∃ v1 w1 v2 w2 v3 w3, (∀ ty, (Builtin.append_ #[22, 22] ty #[.slice (some ⟨eb, 0, none⟩) 0 0, .slice xo A.length xc]).run Try.prog W = .ok v1 w1) ∧ (∀ ty, (Builtin.append_ #[22, 22] ty #[v1, .slice (some ⟨w1.heap.size, 0, none⟩) 1 1]).run Try.prog (w1.alloc (.cells #[.int .i32 x] 21)) = .ok v2 w2) ∧ (∀ ty, (Builtin.append_ #[22, 22] ty #[v2, sB xo N xc A.length]).run Try.prog w2 = .ok v3 w3) ∧ w3.ownsRow F 21 1 v3 (A ++ x :: B).length (K.ints (A ++ x :: B)) ∧ Below F W w3 := by
  have hN : N = A.length + B.length := by
    have := hO.1
    simp [K.ints] at this
    omega
  obtain ⟨v1, w1, r1, o1, k1, s1, b1, n1⟩ := ap hE (parts hO).1 (by simp; omega) hF
  rw [List.nil_append] at o1
  have hv0 : (Value.slice (some ⟨eb, 0, none⟩) 0 0).ownBlock = some eb := rfl
  have hO1 : w1.ownsRow G 21 1 (.slice xo N xc) N (K.ints (A ++ B)) := Al.held hO fun q hq hlt => k1 q hlt (by rw [hv0]; exact fun e => (ho q hq).2 (Option.some.inj e).symm)
  obtain ⟨v2, w2, r2, o2, k2, s2, b2, n2⟩ := app1x o1 (Nat.le_trans hF s1) (by omega) x
  have hnb : ∀ q, (Value.slice xo N xc).ownBlock = some q → q < w1.heap.size ∧ v1.ownBlock ≠ some q := fun q hq => by
    obtain ⟨h1, h2⟩ := ho q hq
    refine ⟨by omega, fun e => ?_⟩
    rcases n1 with n1 | ⟨k, n1, h3⟩
    · rw [n1, hv0] at e; exact h2 (Option.some.inj e).symm
    · rw [n1] at e; have := Option.some.inj e; omega
  have hO2 : w2.ownsRow G 21 1 (.slice xo N xc) N (K.ints (A ++ B)) := Al.held hO1 fun q hq hlt => k2 q hlt (hnb q hq).2
  obtain ⟨v3, w3, r3, o3, k3, s3, b3, n3⟩ := ap o2 (parts hO2).2 (by simp; omega) (Nat.le_trans hF (Nat.le_trans s1 s2))
  refine ⟨v1, w1, v2, w2, v3, w3, r1, r2, r3, ?_, b1.trans (b2.trans b3)⟩
  have e : A ++ x :: B = A ++ [x] ++ B := by simp
  rw [e]; exact o3
end Go.Proofs.Ytbclmmkphjknaaa.Nm
