/-
  strconv.ParseInt of one to six digits of base sixteen.
-/
import Derived.Test.YtbepnmmcdllklaaDoorTChar
import Derived.Test.YtbepnmmcdllklaaDoorTBack
import Derived.Lib.ConvBytes
import Derived.Lib.AtoiErrMem
namespace Go.Proofs.YtbepnmmcdllklaaDoor
open Go.RowKit

theorem lower_any (c : Int) (w : World) :
    Calls Tryd.prog 130 #[.int .u8 c] w fun e w' => e = .returned (.int .u8 (bits .or .u8 c 32)) ∧ w' = w := by
  go_enter Tryd.func130, Tryd.ntmps130
  go_wp2
  go_ret
  exact ⟨rfl, rfl⟩

theorem or_small : ∀ c : Fin 6, bits .or .u8 ((97 + c.1 : Nat) : Int) 32 = ((97 + c.1 : Nat) : Int) ∧ bits .or .u8 ((65 + c.1 : Nat) : Int) 32 = ((97 + c.1 : Nat) : Int) := by decide +kernel

theorem hexd_cases {r : Int} (h : T.hexd r = true) : (48 ≤ r ∧ r ≤ 57) ∨ (97 ≤ r ∧ r ≤ 102) ∨ (65 ≤ r ∧ r ≤ 70) := by
  unfold T.hexd T.hexes at h
  simp only [List.mem_cons, List.not_mem_nil, or_false, decide_eq_true_eq] at h
  omega

theorem pow16 {k : Nat} (h : k ≤ 5) : (16 : Int) ^ k ≤ 1048576 := by
  have h6 : k = 0 ∨ k = 1 ∨ k = 2 ∨ k = 3 ∨ k = 4 ∨ k = 5 := by omega
  rcases h6 with rfl | rfl | rfl | rfl | rfl | rfl <;> decide

theorem hexN_bd (l : List Int) (h : ∀ r ∈ l, T.hexd r = true) : ∀ k, 0 ≤ T.hexN (l.take k) ∧ T.hexN (l.take k) < 16 ^ k := by
  intro k
  induction k with
  | zero => simp [T.hexN]
  | succ k ih =>
    have h4 : (16 : Int) ^ (k + 1) = 16 * 16 ^ k := by rw [Int.pow_succ]; omega
    rw [List.take_add_one]
    cases hk : l[k]? with
    | none => simp only [Option.toList_none, List.append_nil]; omega
    | some r =>
      have h2 := hexd_cases (h r (List.mem_of_getElem? hk))
      have h3 : 0 ≤ T.hexOne r ∧ T.hexOne r ≤ 15 := by unfold T.hexOne; split <;> (try split) <;> omega
      simp only [Option.toList_some]
      rw [T.hexN_snoc]
      omega

set_option maxRecDepth 100000 in
set_option maxHeartbeats 4000000 in
theorem parseUint16 (s : ByteArray) (w : World) (hs : s.size ≤ 6) (h0 : s.size ≠ 0) (hx : ∀ b ∈ s.data.toList, T.hexd (b.toNat : Int) = true) :
    Calls Tryd.prog 125 #[.string s, .int .i64 16, .int .i64 32] w fun e w' => e = .returned (.tuple #[.int .u64 (T.hexN (T.bts s)), .nilIface]) ∧ Below w.heap.size w w' := by
  have hemp : s.toList.isEmpty = false := by
    rw [← decide_eq_emptyBytes]
    exact decide_eq_false (fun h => h0 (by rw [h]; rfl))
  have hcv := Lib.run_convert_string_bytes (P := Tryd.prog) w 9 46 5 s (u := .string) Tryd.underlying9 Tryd.underlying46 Tryd.underlying5
  have hB : ∀ j, j < s.size → (Lib.bytesWorld w 5 s).cell? ⟨w.heap.size, j, none⟩ = some (.int .u8 (s.data.toList.getD j 0).toNat) := fun j hj => Lib.bytesWorld_cell w 5 s j hj
  have HBel : Hid (Below w.heap.size w (Lib.bytesWorld w 5 s)) := Lib.bytesWorld_below w 5 s
  obtain ⟨W1, hW1⟩ : ∃ W1, W1 = Lib.bytesWorld w 5 s := ⟨_, rfl⟩
  rw [← hW1] at hcv hB HBel
  clear hW1
  have hLn : s.data.toList.length = s.size := by simp
  have HN : Hid (∀ k, 0 ≤ T.hexN ((T.bts s).take k) ∧ T.hexN ((T.bts s).take k) < 16 ^ k) := hexN_bd (T.bts s) fun r hr => by
    unfold T.bts at hr
    rw [List.mem_map] at hr
    obtain ⟨b, hb, rfl⟩ := hr
    exact hx b hb
  have HB' : Hid _ := hB
  have HX : Hid (∀ b ∈ s.data.toList, T.hexd (b.toNat : Int) = true) := hx
  have HLn : Hid _ := hLn
  clear hB hx hLn
  go_enter Tryd.func125, Tryd.ntmps125
  go_wp2
  go_loop [12, 13, 101] (fun vu vn vi => ∃ (k : Nat) (a : Int), vu = .bool false ∧ vn = .int .u64 a ∧ vi = .int .i64 k ∧ k ≤ s.size ∧ Hid (a = T.hexN ((T.bts s).take k)))
    (fun _ _ vi => s.size - (intOf vi).toNat)
  case atStart => exact ⟨0, 0, rfl, rfl, rfl, by omega, rfl⟩
  case round =>
    obtain ⟨k, a, rfl, rfl, rfl, hk, HH⟩ := hrel
    by_cases hkn : k < s.size
    · have hc := HB'.out k hkn
      have hbd := HN.out k
      rw [← HH.out] at hbd
      have hp := pow16 (k := k) (by omega)
      have a0 : 0 ≤ a := hbd.1
      have a1 : a < 1048576 := by omega
      clear hbd hp
      have hget : s.data.toList.getD k 0 = s.data.toList[k]'(by have := HLn.out; omega) := by simp [List.getD, List.getElem?_eq_getElem (show k < s.data.toList.length by have := HLn.out; omega)]
      have hm : s.data.toList[k]'(by have := HLn.out; omega) ∈ s.data.toList := List.getElem_mem _
      have HT : Hid ((T.bts s).take (k + 1) = (T.bts s).take k ++ [((s.data.toList[k]'(by have := HLn.out; omega)).toNat : Int)]) := by
        show _ = _
        rw [List.take_add_one]
        unfold T.bts
        rw [List.getElem?_map, List.getElem?_eq_getElem (by have := HLn.out; omega)]
        rfl
      rw [hget] at hc
      have hd := hexd_cases (HX.out _ hm)
      clear hget hm
      generalize (s.data.toList[k]'(by have := HLn.out; omega)) = c at hc hd HT
      have HS : Hid (T.hexN ((T.bts s).take (k + 1)) = 16 * a + T.hexOne (c.toNat : Int)) := by
        show _ = _
        rw [HT.out, T.hexN_snoc, HH.out]
      generalize (c.toNat : Int) = z at hc hd HS
      rcases hd with hd | hd | hd
      · have HV : Hid (T.hexOne z = z - 48) := by show _ = _; unfold T.hexOne; rw [if_pos (by omega)]
        have hd0 := hd.1
        have hd1 := hd.2
        have h95 : (z == 95) = false := by simp; omega
        go_wp2
        refine ⟨⟨k + 1, a * 16 + (z - 48), rfl, rfl, (by first | rfl | (congr 1; omega)), by omega, ?_⟩, by simp [intOf]; omega⟩
        show _ = _
        rw [HS.out, HV.out]; omega
      · have HV : Hid (T.hexOne z = z - 87) := by show _ = _; unfold T.hexOne; rw [if_neg (by omega), if_neg (by omega)]
        have hor : bits .or .u8 z 32 = z := by
          have := (or_small ⟨(z - 97).toNat, by omega⟩).1
          have e : ((97 + (z - 97).toNat : Nat) : Int) = z := by omega
          rw [e] at this
          exact this
        have hd0 := hd.1
        have hd1 := hd.2
        have h95 : (z == 95) = false := by simp; omega
        go_wp2_with (go_at_call 130; refine (lower_any _ _).mono ?_; rintro e w' ⟨rfl, rfl⟩; rw [hor])
        refine ⟨⟨k + 1, a * 16 + (z - 87), rfl, (by first | rfl | (congr 1; omega)), (by first | rfl | (congr 1; omega)), by omega, ?_⟩, by simp [intOf]; omega⟩
        show _ = _
        rw [HS.out, HV.out]; omega
      · have HV : Hid (T.hexOne z = z - 55) := by show _ = _; unfold T.hexOne; rw [if_neg (by omega), if_pos (by omega)]
        have hor : bits .or .u8 z 32 = z + 32 := by
          have := (or_small ⟨(z - 65).toNat, by omega⟩).2
          have e : ((65 + (z - 65).toNat : Nat) : Int) = z := by omega
          have e2 : ((97 + (z - 65).toNat : Nat) : Int) = z + 32 := by omega
          rw [e, e2] at this
          exact this
        have hd0 := hd.1
        have hd1 := hd.2
        have h95 : (z == 95) = false := by simp; omega
        go_wp2_with (go_at_call 130; refine (lower_any _ _).mono ?_; rintro e w' ⟨rfl, rfl⟩; rw [hor])
        refine ⟨⟨k + 1, a * 16 + (z - 55), rfl, (by first | rfl | (congr 1; omega)), (by first | rfl | (congr 1; omega)), by omega, ?_⟩, by simp [intOf]; omega⟩
        show _ = _
        rw [HS.out, HV.out]; omega
    · have hkk : k = s.size := by omega
      subst hkk
      go_wp2
      go_ret2
      refine ⟨?_, HBel.out⟩
      rw [HH.out, List.take_of_length_le (by unfold T.bts; simp)]
      rfl

theorem hexN_small (s : ByteArray) (hs : s.size ≤ 6) (hx : ∀ b ∈ s.data.toList, T.hexd (b.toNat : Int) = true) : 0 ≤ T.hexN (T.bts s) ∧ T.hexN (T.bts s) < 16777216 := by
  have h := hexN_bd (T.bts s) (fun r hr => by
    unfold T.bts at hr
    rw [List.mem_map] at hr
    obtain ⟨b, hb, rfl⟩ := hr
    exact hx b hb) 6
  rw [List.take_of_length_le (by unfold T.bts; simp; exact hs)] at h
  have h6 : (16 : Int) ^ 6 = 16777216 := by decide
  omega

set_option maxRecDepth 100000 in
set_option maxHeartbeats 2000000 in
theorem parseInt16 (s : ByteArray) (w : World) (hs : s.size ≤ 6) (h0 : s.size ≠ 0) (hx : ∀ b ∈ s.data.toList, T.hexd (b.toNat : Int) = true) :
    Calls Tryd.prog 123 #[.string s, .int .i64 16, .int .i64 32] w fun e w' => e = .returned (.tuple #[.int .i64 (T.hexN (T.bts s)), .nilIface]) ∧ Below w.heap.size w w' := by
  have hemp : s.toList.isEmpty = false := by
    rw [← decide_eq_emptyBytes]
    exact decide_eq_false (fun h => h0 (by rw [h]; rfl))
  have hbd := hexN_small s hs hx
  have hp : 0 < s.size := by omega
  have hq : (0 : Int) < (s.size : Int) := by omega
  have hd := hexd_cases (hx (s[0]'hp) (by
    have : s[0]'hp = s.data.toList[0]'(by simpa using hp) := by simp [ByteArray.getElem_eq_getElem_data]
    rw [this]; exact List.getElem_mem _))
  have e43 : (((s[0]'hp).toNat : Int) == 43) = false := by simp; omega
  have e45 : (((s[0]'hp).toNat : Int) == 45) = false := by simp; omega
  have HX : Hid _ := hx
  have HP : Hid (Calls Tryd.prog 125 #[.string s, .int .i64 16, .int .i64 32] w fun e w' => e = .returned (.tuple #[.int .u64 (T.hexN (T.bts s)), .nilIface]) ∧ Below w.heap.size w w') := parseUint16 s w hs h0 hx
  generalize T.hexN (T.bts s) = n at hbd HP
  have n0 := hbd.1
  have n1 := hbd.2
  have n2 : n < 2147483648 := by omega
  clear hd hbd hx
  go_enter Tryd.func123, Tryd.ntmps123
  go_wp2_with (go_at_call 125; refine HP.out.mono ?_; rintro e w1 ⟨rfl, b1⟩)
  all_goals go_ret2
  all_goals exact ⟨rfl, b1⟩

theorem parse_any (s : ByteArray) (w : World) (hs : s.size ≤ 6) (h0 : s.size ≠ 0) (hx : ∀ b ∈ s.data.toList, T.hexd (b.toNat : Int) = true) :
    Calls Tryd.prog 122 #[.string s, .int .i64 16, .int .i64 32] w fun e w' => e = .returned (.tuple #[.int .i64 (T.hexN (T.bts s)), .nilIface]) ∧ Below w.heap.size w w' := by
  have HP : Hid (Calls Tryd.prog 123 #[.string s, .int .i64 16, .int .i64 32] w fun e w' => e = .returned (.tuple #[.int .i64 (T.hexN (T.bts s)), .nilIface]) ∧ Below w.heap.size w w') := parseInt16 s w hs h0 hx
  generalize T.hexN (T.bts s) = n at HP
  clear hx
  go_enter Tryd.func122, Tryd.ntmps122
  go_wp2_with (go_at_call 123; refine HP.out.mono ?_; rintro e w1 ⟨rfl, b1⟩)
  go_ret2
  exact ⟨rfl, b1⟩

end Go.Proofs.YtbepnmmcdllklaaDoor
