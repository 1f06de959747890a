/-
  What scriptref1.Bytes and scriptref1.Encode answer: the bytes of a right rune, and of any slice of at most 2^40 runes the text, or ErrRange.
-/
import Derived.Test.YtefnjdgjbgmmeaaOneA
import Derived.Test.YtefnjdgjbgmmeaaEncode
import Derived.Laws.IdiomStrings
namespace Go.Proofs.Ytefnjdgjbgmmeaa
open Go.RowKit

theorem Try.infoU8 : (Try.prog.info? 5).map (fun i => (i.zero, i.size, i.bytes)) = some (some (.int .u8 0), 1, 1) := by kernel_rfl

/-- a rune's bytes as numbers -/
def encI (r : Int) : List Int := (M.enc r).map fun b => (b.toNat : Int)

theorem encI_eq (r : Nat) (h : M.right (r : Int) = true) : encI (r : Int) =
    if r < 128 then [(r : Int)] else if r < 2048 then [192 + (r : Int) / 64, 128 + (r : Int) % 64]
    else if r < 65536 then [224 + (r : Int) / 4096, 128 + (r : Int) / 64 % 64, 128 + (r : Int) % 64]
    else [240 + (r : Int) / 262144, 128 + (r : Int) / 4096 % 64, 128 + (r : Int) / 64 % 64, 128 + (r : Int) % 64] := by
  have hb := M.right_bd h
  unfold encI
  rw [M.enc_eq r h]
  by_cases h1 : r < 128
  · rw [if_pos h1, if_pos h1]
    simp only [List.map_cons, List.map_nil, M.u8 r (by omega)]
  · rw [if_neg h1, if_neg h1]
    by_cases h2 : r < 2048
    · rw [if_pos h2, if_pos h2]
      simp only [List.map_cons, List.map_nil, M.u8 (192 + r / 64) (by omega), M.u8 (128 + r % 64) (by omega)]
      simp
    · rw [if_neg h2, if_neg h2]
      by_cases h3 : r < 65536
      · rw [if_pos h3, if_pos h3]
        simp only [List.map_cons, List.map_nil, M.u8 (224 + r / 4096) (by omega), M.u8 (128 + r / 64 % 64) (by omega), M.u8 (128 + r % 64) (by omega)]
        simp
      · rw [if_neg h3, if_neg h3]
        simp only [List.map_cons, List.map_nil, M.u8 (240 + r / 262144) (by omega), M.u8 (128 + r / 4096 % 64) (by omega), M.u8 (128 + r / 64 % 64) (by omega), M.u8 (128 + r % 64) (by omega)]
        simp

theorem right_yes0 {x : Int} (h : M.right x = true) : 0 ≤ x := by unfold M.right at h; exact (of_decide_eq_true h).1

/-- a block of numbers that has just been laid -/
theorem rd_new (w : World) (k : IntKind) (zs : List Int) (t : TypeId) (C : Array Value) (hC : C = (zs.map (Value.int k)).toArray) (n : Nat) (hn : n = zs.length) (cap : Nat) : L.Rd (w.alloc (.cells C t)) (.slice (some ⟨w.heap.size, 0, none⟩) n cap) k zs := by
  subst hC hn
  refine ⟨_, cap, rfl, fun h => by simp at h, fun _ => ⟨w.heap.size, 0, rfl, fun j z hj => ?_⟩⟩
  have h := World.cell?_alloc_mark w (zs.map (Value.int k)).toArray t (0, 0) j
  rw [Nat.zero_add]
  rw [h]
  simp [hj]

set_option maxHeartbeats 1000000 in
theorem bytes_any (r : Nat) (w : World) (h : M.right (r : Int) = true) :
    Calls Try.prog 19 #[.int .i32 (r : Int)] w fun e w' => ∃ v, e = .returned v ∧ L.Rd w' v .u8 (encI (r : Int)) ∧ Below w.heap.size w w' := by
  have hb := M.right_bd h
  have HE : Hid _ := encI_eq r h
  by_cases h1 : (r : Int) < 128
  · go_enter Try.func19, Try.ntmps19
    go_wp2
    go_ret
    refine ⟨.slice (some ⟨w.heap.size, 0, none⟩) 1 1, rfl, ?_, (Below.refl _ _).alloc (Nat.le_refl _) _⟩
    rw [HE.out, if_pos (by omega)]
    exact rd_new w .u8 _ 5 _ (by rfl) _ (by rfl) _
  · by_cases h2 : (r : Int) < 2048
    · go_enter Try.func19, Try.ntmps19
      go_wp2
      go_ret
      refine ⟨.slice (some ⟨w.heap.size, 0, none⟩) 2 2, rfl, ?_, (Below.refl _ _).alloc (Nat.le_refl _) _⟩
      rw [HE.out, if_neg (by omega), if_pos (by omega)]
      exact rd_new w .u8 _ 5 _ (by rfl) _ (by rfl) _
    · by_cases h3 : (r : Int) < 65536
      · go_enter Try.func19, Try.ntmps19
        go_wp2
        go_ret
        refine ⟨.slice (some ⟨w.heap.size, 0, none⟩) 3 3, rfl, ?_, (Below.refl _ _).alloc (Nat.le_refl _) _⟩
        rw [HE.out, if_neg (by omega), if_neg (by omega), if_pos (by omega)]
        exact rd_new w .u8 _ 5 _ (by rfl) _ (by rfl) _
      · go_enter Try.func19, Try.ntmps19
        go_wp2
        go_ret
        refine ⟨.slice (some ⟨w.heap.size, 0, none⟩) 4 4, rfl, ?_, (Below.refl _ _).alloc (Nat.le_refl _) _⟩
        rw [HE.out, if_neg (by omega), if_neg (by omega), if_neg (by omega)]
        exact rd_new w .u8 _ 5 _ (by rfl) _ (by rfl) _

theorem all_enc : ∀ zs : List Int, ((zs.flatMap encI).map (Value.int .u8)) = (zs.flatMap fun z => M.enc z).map (fun b => Value.int .u8 (b.toNat : Int)) := by
  intro zs
  have : zs.flatMap encI = (zs.flatMap fun z => M.enc z).map fun b => (b.toNat : Int) := by
    rw [List.map_flatMap]; rfl
  rw [this, List.map_map]
  rfl
theorem encI_len (r : Nat) (h : M.right (r : Int) = true) : (encI (r : Int)).length ≤ 4 := by
  rw [encI_eq r h]
  repeat' split
  all_goals simp

theorem flat_len : ∀ zs : List Int, (∀ z ∈ zs, M.right z = true) → (zs.flatMap encI).length ≤ 4 * zs.length
  | [], _ => by simp
  | z :: zs, h => by
    have i := flat_len zs (fun x hx => h x (by simp [hx]))
    have h0 := h z (by simp)
    have h1 := right_yes0 h0
    obtain ⟨r, rfl⟩ : ∃ r : Nat, z = (r : Int) := ⟨z.toNat, by omega⟩
    have h2 := encI_len r h0
    rw [List.flatMap_cons, List.length_append, List.length_cons]
    omega

theorem bytes_back {P : Program} {w : World} {B : Nat} {t : TypeId} {v : Value} {zs : List Int} (src dst e : TypeId)
    (hs : P.underlying src = some (.slice e)) (he : P.underlying e = some (.int .u8)) (hd : P.underlying dst = some .string)
    (h : w.ownsRow B t 1 v (zs.flatMap encI).length ((zs.flatMap encI).map (Value.int .u8))) :
    ∃ ao n cap, v = .slice ao n cap ∧ (convert src dst (.slice ao n cap)).run P w = .ok (.string (runesBytes zs)) w := by
  have hbytes : runesBytes zs = ⟨(zs.flatMap fun z => M.enc z).toArray⟩ := by
    apply ByteArray.ext
    apply Array.toList_inj.1
    rw [runesBytes_list]
  have hfl : zs.flatMap encI = (zs.flatMap fun z => M.enc z).map fun b => (b.toNat : Int) := by rw [List.map_flatMap]; rfl
  obtain ⟨ao, cap, rfl, hn, hc⟩ := L.Rd.of_owns h
  refine ⟨ao, _, cap, rfl, ?_⟩
  rw [hbytes]
  rw [hfl] at hc ⊢
  generalize (zs.flatMap fun z => M.enc z) = l at hc ⊢
  cases ao with
  | none =>
    have h0 : l = [] := by
      cases l with
      | nil => rfl
      | cons z l => obtain ⟨b, off, h, _⟩ := hc (by simp); simp at h
    subst h0
    rw [run_convert_bytes_string w src dst e none _ cap hs he hd]
    rfl
  | some ad =>
    have := run_convert_bytes_back (P := P) w src dst e ad cap l hs he hd (fun j hj => by
      obtain ⟨b, off, hao, hcell⟩ := hc (by intro h; simp at h; subst h; simp at hj)
      simp at hao
      subst hao
      rw [L.addr_add]
      exact hcell j _ (by simp [hj]))
    simpa using this

set_option maxHeartbeats 1000000 in
theorem refEncode_yes (w : World) (v : Value) (zs : List Int) (R : L.Rd w v .i32 zs) (hl : zs.length ≤ 1099511627776) (hall : ∀ z ∈ zs, M.right z = true) :
    Calls Try.prog 15 #[v] w fun e w' => e = .returned (.tuple #[.string (runesBytes zs), .int .i64 0]) ∧ Below w.heap.size w w' := by
  obtain ⟨i0, hi, hz0, hz1, hz2⟩ := info_parts Try.infoU8
  have HR0 : Hid (L.Rd w v .i32 zs) := R
  obtain ⟨ao, cap, rfl, hn, hc⟩ := R
  go_enter Try.func15, Try.ntmps15
  go_wp2
  go_loopw [4, 9] (fun v4 i wr => ∃ k : Nat, k ≤ zs.length ∧ i = .int .i64 k ∧ wr.ownsRow w.heap.size 5 1 v4 ((zs.take k).flatMap encI).length (((zs.take k).flatMap encI).map (Value.int .u8)) ∧ Below w.heap.size w wr) (fun _ i _ => zs.length - (intOf i).toNat)
  case atStart => exact ⟨0, Nat.zero_le _, rfl, World.ownsRow_nil _ _ _ _, Below.refl _ _⟩
  case round =>
    obtain ⟨k, hk, rfl, hown, hbw⟩ := hrel
    have hsz := hbw.size
    by_cases hlt : k < zs.length
    · obtain ⟨b, off, rfl, hcell⟩ := hc (by intro h; subst h; simp at hlt)
      obtain ⟨x, hx⟩ : ∃ x, zs[k]? = some x := ⟨zs[k], by simp [hlt]⟩
      have c0 := hcell k x hx
      have c1 := (hbw.cell (p := ⟨b, off + k, none⟩) (L.block_lt c0)).trans c0
      have hxr := hall x (List.mem_of_getElem? hx)
      have hx0 := right_yes0 hxr
      obtain ⟨r, rfl⟩ : ∃ r : Nat, x = (r : Int) := ⟨x.toNat, by omega⟩
      have hr4 := encI_len r hxr
      have HR : Hid (M.right (r : Int) = true) := hxr
      have HT : Hid ((zs.take (k + 1)).flatMap encI = (zs.take k).flatMap encI ++ encI (r : Int)) := by
        show _ = _
        rw [List.take_add_one, hx]; simp
      have hfl : ((zs.take k).flatMap encI).length ≤ 4 * k := by
        have := flat_len (zs.take k) (fun z hz => hall z (List.mem_of_mem_take hz))
        rw [List.length_take] at this
        omega
      clear c0 hcell hx hc hxr
      go_wp2_with (go_at_call 13; go_must (refine (refRight_any _ _).mono ?_; rintro e w' ⟨rfl, rfl⟩; rw [HR.out]))
      refine (bytes_any r _ HR.out).mono ?_
      rintro e w1 ⟨v1, rfl, R1, hb1⟩
      have own1 := L.owns_below hown hb1 (Nat.le_refl _)
      have bw1 := hbw.trans (hb1.mono hsz)
      have hz1w := bw1.size
      clear hown hb1 hbw
      go_wp2_with (at_builtin; go_must (refine L.wpList_append_rd rfl (.tmp 16) (.tmp 18) 41 rfl w.heap.size 5 i0 .u8 1 Try.underlying41 hi hz0 hz1 hz2 _ _ _ rfl own1 _ _ rfl R1 (by unfold maxLen; omega) (by omega) (by omega) ?_; intro v5 w5 own5 hg5; have bw5 : Below w.heap.size w w5 := Below.grown bw1 hg5 (by omega) (fun j hj => (own1.lt j hj).1)))
      go_roundw
      case rel => exact ⟨k + 1, by omega, by go_num, (by rw [HT.out]; simpa using own5), bw5⟩
      case measure => simp [intOf]; omega
    · rw [List.take_of_length_le (by omega)] at hown
      obtain ⟨ao', n', cap', rfl, hcv⟩ := bytes_back (P := Try.prog) 41 9 5 Try.underlying41 Try.underlying5 Try.underlying9 hown
      clear hown
      go_wp2
      go_ret2
      exact ⟨rfl, hbw⟩

set_option maxHeartbeats 1000000 in
theorem refEncode_no (w : World) (v : Value) (zs : List Int) (R : L.Rd w v .i32 zs) (hl : zs.length ≤ 1099511627776) (hno : ∃ z ∈ zs, M.right z = false) :
    Calls Try.prog 15 #[v] w fun e w' => e = .returned (.tuple #[.string .empty, .int .i64 3]) ∧ Below w.heap.size w w' := by
  obtain ⟨i0, hi, hz0, hz1, hz2⟩ := info_parts Try.infoU8
  obtain ⟨ao, cap, rfl, hn, hc⟩ := R
  go_enter Try.func15, Try.ntmps15
  go_wp2
  go_loopw [4, 9] (fun v4 i wr => ∃ k : Nat, k ≤ zs.length ∧ i = .int .i64 k ∧ wr.ownsRow w.heap.size 5 1 v4 ((zs.take k).flatMap encI).length (((zs.take k).flatMap encI).map (Value.int .u8)) ∧ Below w.heap.size w wr ∧ Hid (∀ z ∈ zs.take k, M.right z = true)) (fun _ i _ => zs.length - (intOf i).toNat)
  case atStart => exact ⟨0, Nat.zero_le _, rfl, World.ownsRow_nil _ _ _ _, Below.refl _ _, by show ∀ z ∈ _, _; simp⟩
  case round =>
    obtain ⟨k, hk, rfl, hown, hbw, HA⟩ := hrel
    have hsz := hbw.size
    by_cases hlt : k < zs.length
    · obtain ⟨b, off, rfl, hcell⟩ := hc (by intro h; subst h; simp at hlt)
      obtain ⟨x, hx⟩ : ∃ x, zs[k]? = some x := ⟨zs[k], by simp [hlt]⟩
      have c0 := hcell k x hx
      have c1 := (hbw.cell (p := ⟨b, off + k, none⟩) (L.block_lt c0)).trans c0
      cases hb : M.right x with
      | false =>
        have HR : Hid (M.right x = false) := hb
        clear c0 hcell hx hc hb hno hown
        go_wp2_with (go_at_call 13; go_must (refine (refRight_any _ _).mono ?_; rintro e w' ⟨rfl, rfl⟩; rw [HR.out]))
        go_ret2
        exact ⟨rfl, hbw⟩
      | true =>
        have hx0 := right_yes0 hb
        obtain ⟨r, rfl⟩ : ∃ r : Nat, x = (r : Int) := ⟨x.toNat, by omega⟩
        have hr4 := encI_len r hb
        have HR : Hid (M.right (r : Int) = true) := hb
        have HT : Hid ((zs.take (k + 1)).flatMap encI = (zs.take k).flatMap encI ++ encI (r : Int)) := by
          show _ = _
          rw [List.take_add_one, hx]; simp
        have HA2 : Hid (∀ z ∈ zs.take (k + 1), M.right z = true) := by
          show ∀ z ∈ _, _
          intro z hz
          rw [List.take_add_one, hx] at hz
          rcases List.mem_append.1 hz with h | h
          · exact HA.out z h
          · simp at h; subst h; exact hb
        have hfl : ((zs.take k).flatMap encI).length ≤ 4 * k := by
          have := flat_len (zs.take k) HA.out
          rw [List.length_take] at this
          omega
        clear c0 hcell hx hc hb hno
        go_wp2_with (go_at_call 13; go_must (refine (refRight_any _ _).mono ?_; rintro e w' ⟨rfl, rfl⟩; rw [HR.out]))
        refine (bytes_any r _ HR.out).mono ?_
        rintro e w1 ⟨v1, rfl, R1, hb1⟩
        have own1 := L.owns_below hown hb1 (Nat.le_refl _)
        have bw1 := hbw.trans (hb1.mono hsz)
        have hz1w := bw1.size
        clear hown hb1 hbw
        go_wp2_with (at_builtin; go_must (refine L.wpList_append_rd rfl (.tmp 16) (.tmp 18) 41 rfl w.heap.size 5 i0 .u8 1 Try.underlying41 hi hz0 hz1 hz2 _ _ _ rfl own1 _ _ rfl R1 (by unfold maxLen; omega) (by omega) (by omega) ?_; intro v5 w5 own5 hg5; have bw5 : Below w.heap.size w w5 := Below.grown bw1 hg5 (by omega) (fun j hj => (own1.lt j hj).1)))
        go_roundw
        case rel => exact ⟨k + 1, by omega, by go_num, (by rw [HT.out]; simpa using own5), bw5, HA2⟩
        case measure => simp [intOf]; omega
    · exfalso
      obtain ⟨z, hz, hb⟩ := hno
      have hr := HA.out
      rw [List.take_of_length_le (by omega)] at hr
      rw [hr z hz] at hb
      exact absurd hb (by decide)

end Go.Proofs.Ytefnjdgjbgmmeaa
