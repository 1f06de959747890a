/-
  What setsyn.Quote answers, for every rune; and what it calls of the library: strconv.FormatInt in base sixteen.
-/
import Derived.Test.YtajbcgobfkaahaaGreatDoorTMath
import Derived.Test.YtajbcgobfkaahaaGreatDoorSWrong
import Derived.Laws.Bits64b
namespace Go.Proofs.YtajbcgobfkaahaaGreatDoor
open Go.RowKit

set_option maxHeartbeats 1000000 in
theorem alnum_any (r : Int) (w : World) :
    Calls Tryz.prog 91 #[.int .i32 r] w fun e w' => e = .returned (.bool (T.alnum r)) ∧ w' = w := by
  go_enter Tryz.func91, Tryz.ntmps91
  go_wp2
  all_goals go_ret
  all_goals refine ⟨L.ret_bool ?_, rfl⟩
  all_goals (unfold T.alnum; rw [Bool.eq_iff_iff]; simp; try omega)

set_option maxHeartbeats 400000 in
theorem right_any (r : Int) (w : World) :
    Calls Tryz.prog 92 #[.int .i32 r] w fun e w' => e = .returned (.bool (M.right r)) ∧ w' = w := by
  go_enter Tryz.func92, Tryz.ntmps92
  go_wp2
  all_goals go_ret
  all_goals refine ⟨L.ret_bool ?_, rfl⟩
  all_goals (unfold M.right; rw [Bool.eq_iff_iff]; simp; try omega)

/-- what is asked of the table of math/bits -/
def T.Tz (w : World) : Prop := w.cell? ⟨3, 15, none⟩ = some (.int .u8 4)
theorem T.Tz.below {w w' : World} {B : Nat} (h : T.Tz w) (hb : Below B w w') (hB : 3 < B) : T.Tz w' := by
  unfold T.Tz at h ⊢; rw [hb.cell (p := ⟨3, 15, none⟩) hB]; exact h
theorem T.Tz.lt {w : World} (h : T.Tz w) : 3 < w.heap.size := L.block_lt h

set_option maxHeartbeats 400000 in
theorem tz_16 (w : World) (h : T.Tz w) :
    Calls Tryz.prog 130 #[.int .u64 16] w fun e w' => e = .returned (.int .i64 4) ∧ w' = w := by
  unfold T.Tz at h
  have hz : IntKind.u64.wrap (bits BinOp.and IntKind.u64 16 (IntKind.u64.wrap (-16)) * 285870213051353865) / 288230376151711744 = 15 := by kernel_rfl
  go_enter Tryz.func130, Tryz.ntmps130
  go_wp2
  go_ret
  exact ⟨rfl, rfl⟩

theorem pow2_16 (w : World) :
    Calls Tryz.prog 129 #[.int .i64 16] w fun e w' => e = .returned (.bool true) ∧ w' = w := by
  have hz : bits BinOp.and IntKind.i64 16 15 = 0 := by kernel_rfl
  go_enter Tryz.func129, Tryz.ntmps129
  go_wp2
  go_ret
  exact ⟨rfl, rfl⟩

theorem and_15 (u : Nat) (h : u ≤ 1114111) : bits .and .u64 (u : Int) 15 = ((u % 16 : Nat) : Int) := by
  have := bits_and_u64_nat u 15 (by omega) (by omega)
  rw [Nat.and_two_pow_sub_one_eq_mod u 4] at this
  exact this

def digBytes : ByteArray := { data := #[48, 49, 50, 51, 52, 53, 54, 55, 56, 57, 97, 98, 99, 100, 101, 102, 103, 104, 105, 106, 107, 108, 109, 110, 111, 112, 113, 114, 115, 116, 117, 118, 119, 120, 121, 122] }
theorem dig_all : ∀ n : Fin 16, digBytes[n.1]'(by have := n.2; show _ < 36; omega) = T.dig n.1 := by decide
theorem dig_at (n : Nat) (h : n < 16) (hb : n < digBytes.size) : (digBytes[n].toNat : Int) = (T.dig n).toNat := by
  rw [show digBytes[n] = T.dig n from dig_all ⟨n, h⟩]

/-- the digits that lie in the array, from place i on -/
def Digs (w wr : World) (i : Nat) (d : List UInt8) : Prop :=
  Below w.heap.size w wr ∧ (∀ j c, d[j]? = some c → wr.cell? ⟨w.heap.size, i + j, none⟩ = some (.int .u8 c.toNat)) ∧ ∀ j < 65, ∃ v, wr.cell? ⟨w.heap.size, j, none⟩ = some v ∧ wr.frozen? ⟨w.heap.size, j, none⟩ = false

theorem Digs.push {w wr : World} {i : Nat} {d : List UInt8} (h : Digs w wr (i + 1) d) (hi : i < 65) (c : UInt8) : Digs w (wr.setCell ⟨w.heap.size, i, none⟩ (.int .u8 c.toNat)) i (c :: d) := by
  obtain ⟨v, hc, hf⟩ := h.2.2 i hi
  refine ⟨h.1.setCell (Nat.le_refl _) _, ?_, ?_⟩
  · intro j x hj
    cases j with
    | zero => simp at hj; subst hj; exact World.cell?_setCell_same _ _ _ hc
    | succ j =>
      rw [World.cell?_setCell_other _ _ _ _ (by simp)]
      have := h.2.1 j x (by simpa using hj)
      rw [show i + (j + 1) = i + 1 + j by omega]
      exact this
  · intro j hj
    obtain ⟨v', hc', hf'⟩ := h.2.2 j hj
    by_cases e : j = i
    · subst e; exact ⟨_, World.cell?_setCell_same _ _ _ hc, by rw [World.frozen?_setCell]; exact hf⟩
    · exact ⟨v', by rw [World.cell?_setCell_other _ _ _ _ (fun h => e (congrArg Addr.off h).symm)]; exact hc', by rw [World.frozen?_setCell]; exact hf'⟩

set_option maxRecDepth 8000 in
set_option maxHeartbeats 1000000 in
theorem fmtBits (r : Nat) (hr : r ≤ 1114111) (w : World) (hT : T.Tz w) :
    Calls Tryz.prog 113 #[.slice none 0 0, .int .u64 r, .int .i64 16, .bool false, .bool false] w fun e w' => e = .returned (.tuple #[.slice none 0 0, .string ⟨(T.hexL r).toArray⟩]) ∧ Below w.heap.size w w' := by
  have HT : Hid (T.Tz w) := hT
  clear hT
  have HL : Hid ((T.hexL r).length ≤ 6) := T.hexL_len (k := 5) (by omega)
  go_enter Tryz.func113, Tryz.ntmps113
  go_wp2_with (first
    | (go_at_call 129; refine (pow2_16 _).mono ?_; rintro e w1 ⟨rfl, rfl⟩)
    | (go_at_call 130; refine (tz_16 _ ?_).mono ?_; rotate_left; rintro e w1 ⟨rfl, rfl⟩))
  rotate_left
  · exact HT.out.below ((Below.refl _ w).alloc (Nat.le_refl _) _) HT.out.lt
  have hz : Hid (Digs w (w.alloc (.cells Tryz.zeroCells171 171)) 65 []) := by
    refine ⟨(Below.refl _ w).alloc (Nat.le_refl _) _, fun j c h => by simp at h, fun j hj => ?_⟩
    have hzc : Tryz.zeroCells171.size = 65 := by kernel_rfl
    refine ⟨Tryz.zeroCells171[j]'(by omega), ?_, by simp⟩
    rw [World.cell?_alloc_at _ _ _ _ rfl]
    simp [hzc, hj]
  go_loopw [1, 13] (fun uv iv wr => ∃ (u i : Nat) (d : List UInt8), i + d.length = 65 ∧ uv = .int .u64 u ∧ iv = .int .i64 i ∧ u ≤ 1114111 ∧ Hid (T.hexL r = T.hexL u ++ d) ∧ Hid (Digs w wr i d)) (fun uv _ _ => (intOf uv).toNat)
  case atStart => exact ⟨r, 65, [], rfl, rfl, rfl, hr, by show _ = _; simp, hz⟩
  case round =>
    obtain ⟨u, i, d, hid, rfl, rfl, hu, hh, D⟩ := hrel
    have hi60 : 60 ≤ i := by
      have h1 := HL.out
      have h2 : 0 < (T.hexL u).length := by
        by_cases h : u < 16
        · rw [T.hexL_small h]; simp
        · rw [T.hexL_big h]; simp
      rw [hh.out, List.length_append] at h1
      omega
    obtain ⟨i, rfl⟩ : ∃ k, i = k + 1 := ⟨i - 1, by omega⟩
    obtain ⟨v, hc, hf⟩ := D.out.2.2 i (by omega)
    have e1 : ((i + 1 : Nat) : Int) - 1 = (i : Int) := by omega
    have e2 : (0 : Int) ≤ (i : Int) ∧ (i : Int) < 65 := by omega
    have hp := D.out.push (by omega)
    by_cases hlt : u < 16
    · have hlt' : (u : Int) < 36 := by omega
      have hlt0 : ¬ 16 ≤ (u : Int) := by omega
      have hex : Hid (T.hexL r = digBytes[u]'(by show u < 36; omega) :: d) := by
        show _ = _
        rw [hh.out, T.hexL_small hlt, ← show _ = T.dig u from dig_all ⟨u, hlt⟩]; rfl
      have hpc : Hid _ := hp (digBytes[u]'(by show u < 36; omega))
      have e3 : (i : Int) ≤ 65 := by omega
      have e4 : ¬ 65 = i := by omega
      have e5 : 65 - i = (T.hexL r).length := by rw [hex.out]; simp at hid ⊢; omega
      clear hp
      go_wp2
      rw [run_convert_bytes_back _ 51 9 5 _ _ (T.hexL r) Tryz.underlying51 Tryz.underlying5 Tryz.underlying9 ?hcc]
      case hcc =>
        intro j hj
        rw [L.addr_add]
        refine hpc.out.2.1 j _ ?_
        rw [← hex.out]
        simp [hj]
      go_wp2
      go_ret2
      exact ⟨rfl, D.out.1.setCell (Nat.le_refl _) _⟩
    · have hb := and_15 u hu
      have hm : (0 : Int) ≤ ((u % 16 : Nat) : Int) ∧ ((u % 16 : Nat) : Int) < 36 := by omega
      go_wp2
      refine ⟨⟨u / 16, i, _, ?_, by simp, rfl, by omega, ?_, hp _⟩, ?_⟩
      · simp at hid ⊢; omega
      · show _ = _
        rw [hh.out, T.hexL_big hlt, List.append_assoc, ← show _ = T.dig (u % 16) from dig_all ⟨u % 16, by omega⟩]
        rfl
      · simp [intOf]; omega

theorem fmtInt (r : Nat) (hr : r ≤ 1114111) (w : World) (hT : T.Tz w) :
    Calls Tryz.prog 93 #[.int .i64 r, .int .i64 16] w fun e w' => e = .returned (.string ⟨(T.hexL r).toArray⟩) ∧ Below w.heap.size w w' := by
  have h0 : ¬ (r : Int) < 0 := by omega
  go_enter Tryz.func93, Tryz.ntmps93
  go_wp2_with (first
    | (go_at_call 113; refine (fmtBits r hr _ hT).mono ?_; rintro e w1 ⟨rfl, b1⟩)
    | go_in)
  go_ret
  exact ⟨rfl, b1⟩

theorem quo_yes {r : Int} (h : T.plain r = true) : (⟨(T.quo r).toArray⟩ : ByteArray) = Utf8.encode r := by
  unfold T.quo; rw [if_pos h]; unfold M.enc; simp
theorem quo_no {r : Nat} (h : ¬ T.plain (r : Int) = true) : (⟨(T.quo (r : Int)).toArray⟩ : ByteArray) = ⟨#[92, 117, 123]⟩ ++ ⟨(T.hexL r).toArray⟩ ++ ⟨#[125]⟩ := by
  unfold T.quo; rw [if_neg h]
  apply ByteArray.ext
  apply Array.toList_inj.1
  simp

set_option maxHeartbeats 1000000 in
theorem quote_any (r : Int) (h0 : 0 ≤ r) (h1 : r ≤ 1114111) (w : World) (hT : T.Tz w) :
    Calls Tryz.prog 80 #[.int .i32 r] w fun e w' => e = .returned (.string ⟨(T.quo r).toArray⟩) ∧ Below w.heap.size w w' := by
  obtain ⟨r, rfl⟩ : ∃ k : Nat, r = (k : Int) := ⟨r.toNat, by omega⟩
  have hlen := T.hexL_len (n := r) (k := 5) (by omega)
  have hl1 : ¬ 9223372036854775807 < 3 + (T.hexL r).length := by omega
  have hl2 : ¬ 9223372036854775807 < 3 + (T.hexL r).length + 1 := by omega
  clear hlen
  go_enter Tryz.func80, Tryz.ntmps80
  go_wp2_with (first
    | (go_at_call 91; refine (alnum_any _ _).mono ?_; rintro e w1 ⟨rfl, rfl⟩)
    | (go_at_call 92; refine (right_any _ _).mono ?_; rintro e w1 ⟨rfl, rfl⟩)
    | (go_at_call 93; refine (fmtInt r (by omega) _ hT).mono ?_; rintro e w1 ⟨rfl, b1⟩))
  · have h : T.alnum r = true := by assumption
    go_ret
    refine ⟨?_, Below.refl _ _⟩
    rw [quo_yes (by unfold T.plain; rw [h]; rfl)]
    rfl
  · have h : M.right r = true := by assumption
    have h' : (126 : Int) < r := by assumption
    go_ret
    refine ⟨?_, Below.refl _ _⟩
    rw [quo_yes (by unfold T.plain; rw [h, decide_eq_true h']; simp)]
    rfl
  · have h : (r : Int) ≤ 126 := by assumption
    have h' : ¬ T.alnum r = true := by assumption
    go_ret
    refine ⟨?_, b1⟩
    rw [quo_no (by unfold T.plain; simp at h' ⊢; exact ⟨h', fun _ => by omega⟩)]
    rfl
  · have h : ¬ M.right r = true := by assumption
    have h' : ¬ T.alnum r = true := by assumption
    go_ret
    refine ⟨?_, b1⟩
    rw [quo_no (by unfold T.plain; simp at h h' ⊢; exact ⟨h', fun e => by rw [h] at e; cases e⟩)]
    rfl

end Go.Proofs.YtajbcgobfkaahaaGreatDoor
