/-
  What scriptref3.Quote answers, for every rune.
-/
import Derived.Test.YtafkfnkcabahnaaDoorTQuote
namespace Go.Proofs.YtafkfnkcabahnaaDoor
open Go.RowKit

set_option maxHeartbeats 1000000 in
theorem refalnum_any (r : Int) (w : World) :
    Calls Tryd.prog 36 #[.int .i32 r] w fun e w' => e = .returned (.bool (T.alnum r)) ∧ w' = w := by
  go_enter Tryd.func36, Tryd.ntmps36
  go_wp2
  all_goals go_ret
  all_goals refine ⟨L.ret_bool ?_, rfl⟩
  all_goals (unfold T.alnum; rw [Bool.eq_iff_iff]; simp; try omega)

set_option maxHeartbeats 400000 in
theorem refright_any (r : Int) (w : World) :
    Calls Tryd.prog 37 #[.int .i32 r] w fun e w' => e = .returned (.bool (M.right r)) ∧ w' = w := by
  go_enter Tryd.func37, Tryd.ntmps37
  go_wp2
  all_goals go_ret
  all_goals refine ⟨L.ret_bool ?_, rfl⟩
  all_goals (unfold M.right; rw [Bool.eq_iff_iff]; simp; try omega)

theorem hex_all : ∀ n : Fin 16, (⟨#[48, 49, 50, 51, 52, 53, 54, 55, 56, 57, 97, 98, 99, 100, 101, 102]⟩ : ByteArray).extract n.1 (n.1 + 1) = ⟨#[T.dig n.1]⟩ := by decide

set_option maxHeartbeats 1000000 in
theorem hex_any (n : Nat) : ∀ (_ : n ≤ 1114111) (w : World),
    Calls Tryd.prog 39 #[.int .i64 n] w fun e w' => e = .returned (.string ⟨(T.hexL n).toArray⟩) ∧ w' = w := by
  induction n using Nat.strongRecOn with
  | ind n ih =>
    intro hn w
    by_cases h : n < 16
    · have h1 : (n : Int) < 16 := by omega
      have h2 : (n : Int) + 1 ≤ 16 := by omega
      have h3 : ((n : Int) + 1).toNat = n + 1 := by omega
      go_enter Tryd.func39, Tryd.ntmps39
      go_wp2
      go_ret
      refine ⟨?_, rfl⟩
      rw [T.hexL_small h]
      exact congrArg (fun b => Ending.returned (.string b)) (hex_all ⟨n, h⟩)
    · have h1 : ¬ (n : Int) < 16 := by omega
      go_enter Tryd.func39, Tryd.ntmps39
      have hl0 := T.hexL_len (n := n / 16) (k := 5) (by omega)
      have hl1 : ¬ 9223372036854775807 < (T.hexL (n / 16)).length + (T.hexL (n % 16)).length := by
        have := T.hexL_len (n := n % 16) (k := 5) (by omega)
        omega
      clear hl0
      go_wp2_with fail
      rw [show (n : Int) / 16 = ((n / 16 : Nat) : Int) by omega]
      refine (ih (n / 16) (by omega) (by omega) _).mono ?_
      rintro e w1 ⟨rfl, rfl⟩
      go_wp2_with fail
      rw [show (n : Int) % 16 = ((n % 16 : Nat) : Int) by omega]
      refine (ih (n % 16) (by omega) (by omega) _).mono ?_
      rintro e w2 ⟨rfl, rfl⟩
      go_wp2
      go_ret
      refine ⟨congrArg (fun b => Ending.returned (.string b)) ?_, rfl⟩
      apply ByteArray.ext
      apply Array.toList_inj.1
      show ((⟨(T.hexL (n / 16)).toArray⟩ : ByteArray) ++ ⟨(T.hexL (n % 16)).toArray⟩).data.toList = (T.hexL n).toArray.toList
      rw [T.hexL_big h, T.hexL_small (n := n % 16) (by omega)]
      simp

def encI (r : Int) : List Int := (M.enc r).map fun b => (b.toNat : Int)

theorem encI_eq (r : Nat) (h : M.right (r : Int) = true) : encI (r : Int) =
    if r < 128 then [(r : Int)] else if r < 2048 then [192 + (r : Int) / 64, 128 + (r : Int) % 64]
    else if r < 65536 then [224 + (r : Int) / 4096, 128 + (r : Int) / 64 % 64, 128 + (r : Int) % 64]
    else [240 + (r : Int) / 262144, 128 + (r : Int) / 4096 % 64, 128 + (r : Int) / 64 % 64, 128 + (r : Int) % 64] := by
  have hb := M.right_bd h
  unfold encI
  rw [M.enc_eq r h]
  by_cases h1 : r < 128
  · rw [if_pos h1, if_pos h1]
    simp only [List.map_cons, List.map_nil, M.u8 r (by omega)]
  · rw [if_neg h1, if_neg h1]
    by_cases h2 : r < 2048
    · rw [if_pos h2, if_pos h2]
      simp only [List.map_cons, List.map_nil, M.u8 (192 + r / 64) (by omega), M.u8 (128 + r % 64) (by omega)]
      simp
    · rw [if_neg h2, if_neg h2]
      by_cases h3 : r < 65536
      · rw [if_pos h3, if_pos h3]
        simp only [List.map_cons, List.map_nil, M.u8 (224 + r / 4096) (by omega), M.u8 (128 + r / 64 % 64) (by omega), M.u8 (128 + r % 64) (by omega)]
        simp
      · rw [if_neg h3, if_neg h3]
        simp only [List.map_cons, List.map_nil, M.u8 (240 + r / 262144) (by omega), M.u8 (128 + r / 4096 % 64) (by omega), M.u8 (128 + r / 64 % 64) (by omega), M.u8 (128 + r % 64) (by omega)]
        simp

theorem right_yes0 {x : Int} (h : M.right x = true) : 0 ≤ x := by unfold M.right at h; exact (of_decide_eq_true h).1

/-- a block of numbers that has just been laid -/
theorem rd_new (w : World) (k : IntKind) (zs : List Int) (t : TypeId) (C : Array Value) (hC : C = (zs.map (Value.int k)).toArray) (n : Nat) (hn : n = zs.length) (cap : Nat) : L.Rd (w.alloc (.cells C t)) (.slice (some ⟨w.heap.size, 0, none⟩) n cap) k zs := by
  subst hC hn
  refine ⟨_, cap, rfl, fun h => by simp at h, fun _ => ⟨w.heap.size, 0, rfl, fun j z hj => ?_⟩⟩
  have h := World.cell?_alloc_mark w (zs.map (Value.int k)).toArray t (0, 0) j
  rw [Nat.zero_add]
  rw [h]
  simp [hj]

set_option maxHeartbeats 1000000 in
theorem bytes_any (r : Nat) (w : World) (h : M.right (r : Int) = true) :
    Calls Tryd.prog 38 #[.int .i32 (r : Int)] w fun e w' => ∃ v, e = .returned v ∧ L.Rd w' v .u8 (encI (r : Int)) ∧ Below w.heap.size w w' := by
  have hb := M.right_bd h
  have HE : Hid _ := encI_eq r h
  by_cases h1 : (r : Int) < 128
  · go_enter Tryd.func38, Tryd.ntmps38
    go_wp2
    go_ret
    refine ⟨.slice (some ⟨w.heap.size, 0, none⟩) 1 1, rfl, ?_, (Below.refl _ _).alloc (Nat.le_refl _) _⟩
    rw [HE.out, if_pos (by omega)]
    exact rd_new w .u8 _ 5 _ (by rfl) _ (by rfl) _
  · by_cases h2 : (r : Int) < 2048
    · go_enter Tryd.func38, Tryd.ntmps38
      go_wp2
      go_ret
      refine ⟨.slice (some ⟨w.heap.size, 0, none⟩) 2 2, rfl, ?_, (Below.refl _ _).alloc (Nat.le_refl _) _⟩
      rw [HE.out, if_neg (by omega), if_pos (by omega)]
      exact rd_new w .u8 _ 5 _ (by rfl) _ (by rfl) _
    · by_cases h3 : (r : Int) < 65536
      · go_enter Tryd.func38, Tryd.ntmps38
        go_wp2
        go_ret
        refine ⟨.slice (some ⟨w.heap.size, 0, none⟩) 3 3, rfl, ?_, (Below.refl _ _).alloc (Nat.le_refl _) _⟩
        rw [HE.out, if_neg (by omega), if_neg (by omega), if_pos (by omega)]
        exact rd_new w .u8 _ 5 _ (by rfl) _ (by rfl) _
      · go_enter Tryd.func38, Tryd.ntmps38
        go_wp2
        go_ret
        refine ⟨.slice (some ⟨w.heap.size, 0, none⟩) 4 4, rfl, ?_, (Below.refl _ _).alloc (Nat.le_refl _) _⟩
        rw [HE.out, if_neg (by omega), if_neg (by omega), if_neg (by omega)]
        exact rd_new w .u8 _ 5 _ (by rfl) _ (by rfl) _

/-- the bytes of a rune, as a string -/
theorem enc_back {P : Program} {w : World} {v : Value} {r : Int} (src dst e : TypeId)
    (hs : P.underlying src = some (.slice e)) (he : P.underlying e = some (.int .u8)) (hd : P.underlying dst = some .string)
    (h : L.Rd w v .u8 (encI r)) :
    ∃ ao n cap, v = .slice ao n cap ∧ (convert src dst (.slice ao n cap)).run P w = .ok (.string (Utf8.encode r)) w := by
  have hb : Utf8.encode r = ⟨(M.enc r).toArray⟩ := by unfold M.enc; simp
  obtain ⟨ao, cap, rfl, hn, hc⟩ := h
  refine ⟨ao, _, cap, rfl, ?_⟩
  rw [hb]
  unfold encI at hc ⊢
  generalize M.enc r = l at hc ⊢
  cases ao with
  | none =>
    have h0 : l = [] := by
      cases l with
      | nil => rfl
      | cons z l => obtain ⟨b, off, h, _⟩ := hc (by simp); simp at h
    subst h0
    rw [run_convert_bytes_string w src dst e none _ cap hs he hd]
    rfl
  | some ad =>
    have := run_convert_bytes_back (P := P) w src dst e ad cap l hs he hd (fun j hj => by
      obtain ⟨b, off, hao, hcell⟩ := hc (by intro h; simp at h; subst h; simp at hj)
      simp at hao
      subst hao
      rw [L.addr_add]
      exact hcell j _ (by simp [hj]))
    simpa using this

set_option maxRecDepth 20000 in
set_option maxHeartbeats 1000000 in
theorem refquote_any (r : Int) (h0 : 0 ≤ r) (h1 : r ≤ 1114111) (w : World) :
    Calls Tryd.prog 22 #[.int .i32 r] w fun e w' => e = .returned (.string ⟨(T.quo r).toArray⟩) ∧ Below w.heap.size w w' := by
  obtain ⟨r, rfl⟩ : ∃ k : Nat, r = (k : Int) := ⟨r.toNat, by omega⟩
  have hlen := T.hexL_len (n := r) (k := 5) (by omega)
  have hl1 : ¬ 9223372036854775807 < 3 + (T.hexL r).length := by omega
  have hl2 : ¬ 9223372036854775807 < 3 + (T.hexL r).length + 1 := by omega
  clear hlen
  have hRt : T.alnum r = true → M.right r = true := by
    intro h
    unfold T.alnum at h
    unfold M.right
    simp only [Bool.or_eq_true, Bool.and_eq_true, decide_eq_true_eq] at h ⊢
    omega
  go_enter Tryd.func22, Tryd.ntmps22
  go_wp2_with (first
    | (go_at_call 36; refine (refalnum_any _ _).mono ?_; rintro e w1 ⟨rfl, rfl⟩)
    | (go_at_call 37; refine (refright_any _ _).mono ?_; rintro e w1 ⟨rfl, rfl⟩)
    | (go_at_call 38; refine (bytes_any r _ (by first | assumption | exact hRt (by assumption))).mono ?_; rintro e w1 ⟨v, rfl, R1, b1⟩; obtain ⟨ao, n, cap, rfl, hcv⟩ := enc_back (P := Tryd.prog) 31 9 5 Tryd.underlying31 Tryd.underlying5 Tryd.underlying9 R1; clear R1)
    | (go_at_call 39; refine (hex_any r (by omega) _).mono ?_; rintro e w1 ⟨rfl, rfl⟩))
  · have h : T.alnum r = true := by assumption
    go_ret
    refine ⟨?_, b1⟩
    rw [quo_yes (by unfold T.plain; rw [h]; rfl)]
    rfl
  · have h : M.right r = true := by assumption
    have h' : (127 : Int) ≤ r := by omega
    go_ret
    refine ⟨?_, b1⟩
    rw [quo_yes (by unfold T.plain; rw [h, decide_eq_true (show (126 : Int) < r by omega)]; simp)]
    rfl
  · have h : M.right r = false := by assumption
    have h' : ¬ T.alnum r = true := by assumption
    go_ret
    refine ⟨?_, Below.refl _ _⟩
    rw [quo_no (by unfold T.plain; rw [h]; simp at h' ⊢; exact h')]
    rfl
  · have h : (r : Int) < 127 := by omega
    have h' : ¬ T.alnum r = true := by assumption
    go_ret
    refine ⟨?_, Below.refl _ _⟩
    rw [quo_no (by unfold T.plain; simp at h' ⊢; exact ⟨h', fun _ => by omega⟩)]
    rfl

end Go.Proofs.YtafkfnkcabahnaaDoor
