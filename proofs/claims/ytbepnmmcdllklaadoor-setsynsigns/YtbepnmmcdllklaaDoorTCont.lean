/-
  strings.ContainsRune over a text of ASCII alone, at any rune, and at -1.
-/
import Derived.Test.YtbepnmmcdllklaaDoorTCur
import Derived.Shelf.Lay
import Derived.Shelf.Small.Utf8
import Derived.Shelf.Small.Strs
import Derived.Shelf.Strings.Search1
import Derived.Shelf.Strings.Runes
import Derived.Lib.OthersKept
import Derived.WalkMore
namespace Go.Proofs.YtbepnmmcdllklaaDoor
open Go.Shelf Go.RowKit

shelf_lay Lays.n119 Nm 119 at Tryd as Tryd.lays119
shelf_lay Lays.n137 Nm 137 at Tryd as Tryd.lays137
shelf_lay Lays.n151 Nm 151 at Tryd as Tryd.lays151

/-- the bytes of a text, as runes -/
def T.bts (s : ByteArray) : List Int := s.data.toList.map fun b => (b.toNat : Int)

theorem index_mem : ∀ (l : List UInt8) (c : UInt8), -1 ≤ Lib.indexByte l c ∧ (0 ≤ Lib.indexByte l c ↔ c ∈ l)
  | [], c => by simp [Lib.indexByte]
  | b :: l, c => by
    have ih := index_mem l c
    unfold Lib.indexByte
    by_cases h : b = c
    · simp [h]
    · have hb : (b == c) = false := by simp [h]
      rw [hb]
      simp only [Bool.false_eq_true, if_false]
      by_cases h1 : Lib.indexByte l c = -1
      · have hn : c ∉ l := fun hm => by have := ih.2.2 hm; omega
        simp [h1, hn, Ne.symm h]
      · have hb1 : (Lib.indexByte l c == -1) = false := by simp [h1]
        rw [hb1]
        simp only [Bool.false_eq_true, if_false]
        refine ⟨by omega, fun _ => by simp [ih.2.1 (by omega)], fun _ => by omega⟩

theorem index_none {l : List UInt8} {c : UInt8} (h : c ∉ l) : Lib.indexByte l c = -1 := by
  have := index_mem l c
  have h1 : ¬ 0 ≤ Lib.indexByte l c := fun h0 => h (this.2.1 h0)
  omega

theorem contains_ascii (s : ByteArray) (r : Int) (w : World) (h0 : 0 ≤ r) (h1 : r < 128) :
    Calls Tryd.prog 87 #[.string s, .int .i32 r] w fun e w' => e = .returned (.bool (decide (r ∈ T.bts s))) ∧ Below w.heap.size w w' := by
  refine (Any.strings_ContainsRune_ascii Tryd.lays151 s r w h0 h1).mono ?_
  rintro e w' ⟨rfl, rfl⟩
  refine ⟨L.ret_bool ?_, Below.refl _ _⟩
  rw [decide_eq_decide, (index_mem _ _).2]
  unfold T.bts
  rw [List.mem_map]
  constructor
  · intro h
    refine ⟨_, h, ?_⟩
    have : r.toNat.toUInt8.toNat = r.toNat := by simp; omega
    omega
  · rintro ⟨b, hb, rfl⟩
    simpa using hb

theorem bts_big {s : ByteArray} {r : Int} (hA : ∀ b ∈ s.data.toList, b.toNat < 128) (h : r < 0 ∨ 128 ≤ r) : r ∉ T.bts s := by
  unfold T.bts
  rw [List.mem_map]
  rintro ⟨b, hb, rfl⟩
  have := hA b hb
  omega

theorem contains_of (s : ByteArray) (r : Int) (w : World) (hA : ∀ b ∈ s.data.toList, b.toNat < 128) (hr : r < 0 ∨ 128 ≤ r)
    (h : Calls Tryd.prog 102 #[.string s, .int .i32 r] w fun e w' => e = .returned (.int .i64 (-1)) ∧ Below w.heap.size w w') :
    Calls Tryd.prog 87 #[.string s, .int .i32 r] w fun e w' => e = .returned (.bool (decide (r ∈ T.bts s))) ∧ Below w.heap.size w w' := by
  rw [decide_eq_false (bts_big hA hr)]
  go_enter Tryd.func87, Tryd.ntmps87
  go_wp2_with (go_at_call 102; refine h.mono ?_; rintro e w1 ⟨rfl, b1⟩)
  go_ret
  exact ⟨rfl, b1⟩

set_option maxRecDepth 100000 in
set_option maxHeartbeats 2000000 in
theorem index_bad (s : ByteArray) (r : Int) (w : World) (hv : Lib.validRune r = false) (hr : r < 0 ∨ 128 ≤ r) (hne : r ≠ 65533) :
    Calls Tryd.prog 102 #[.string s, .int .i32 r] w fun e w' => e = .returned (.int .i64 (-1)) ∧ Below w.heap.size w w' := by
  have hne' : (r == 65533) = false := by simp [hne]
  go_enter Tryd.func102, Tryd.ntmps102
  go_wp2_with (go_at_call 110; refine (Any.utf8_ValidRune Tryd.lays119 r _).mono ?_; rintro e w1 ⟨rfl, rfl⟩; rw [hv])
  all_goals go_ret
  all_goals exact ⟨rfl, Below.refl _ _⟩

theorem ext_mem {s : ByteArray} {i j : Nat} {b : UInt8} (h : b ∈ (s.extract i j).data.toList) : b ∈ s.data.toList := by
  have : (s.extract i j).data.toList = (s.data.toList.drop i).take (j - i) := by simp [ByteArray.data_extract]
  rw [this] at h
  exact List.mem_of_mem_drop (List.mem_of_mem_take h)
theorem byte_any (s : ByteArray) (c : Int) (w : World) :
    Calls Tryd.prog 109 #[.string s, .int .u8 c] w fun e w' => e = .returned (.int .i64 (Lib.indexByte s.data.toList c.toNat.toUInt8)) ∧ w' = w := Any.strings_IndexByte Tryd.lays137 s c w
theorem get_lt {s : ByteArray} (hA : ∀ b ∈ s.data.toList, b.toNat < 128) (k : Nat) (h : k < s.size) : s[k].toNat < 128 := hA _ (by
  have : s[k] = s.data.toList[k]'(by simpa using h) := by simp [ByteArray.getElem_eq_getElem_data]
  rw [this]; exact List.getElem_mem _)

set_option maxRecDepth 100000 in
set_option maxHeartbeats 2000000 in
theorem index_fffd (s : ByteArray) (w : World) (hA : ∀ b ∈ s.data.toList, b.toNat < 128) :
    Calls Tryd.prog 102 #[.string s, .int .i32 65533] w fun e w' => e = .returned (.int .i64 (-1)) ∧ Below w.heap.size w w' := by
  have HA : Hid _ := hA
  clear hA
  go_enter Tryd.func102, Tryd.ntmps102
  go_wp2
  go_loopw [5] (fun _ wr => ∃ pos : Nat, wr.heap[w.heap.size]? = some (.stringIter s pos) ∧ Hid (Below w.heap.size w wr)) (fun _ wr => s.size - wr.iterPos w.heap.size)
  case atStart => exact ⟨0, World.iter_heap w s 0, (Below.refl _ _).alloc (Nat.le_refl _) _⟩
  case round =>
    obtain ⟨pos, hit, hbw⟩ := hrel
    have hpos0 := iterPos_of hit
    by_cases hp : pos < s.size
    · have ha := get_lt HA.out pos hp
      have hnx : ∀ ty, (Instr.next (.pointer (some ⟨w.heap.size, 0, none⟩)) true ty).run Tryd.prog wr = _ := fun ty => Lib.run_next_ascii_at wr w.heap.size s pos ty hit hp ha
      have hit2 := Lib.iterAt_heap wr w.heap.size s pos (pos + 1) hit
      have hbw2 : Hid _ := Lib.below_iterAt hbw.out (k := w.heap.size) (Nat.le_refl _) s (pos + 1)
      have hne : (((s[pos]'hp).toNat : Int) == 65533) = false := by simp; omega
      generalize wr.iterAt w.heap.size s (pos + 1) = W1 at hnx hit2 hbw2
      generalize ((s[pos]'hp).toNat : Int) = z at hnx hne
      clear hit hbw ha
      go_wp2
      go_roundw
      case rel => exact ⟨_, hit2, hbw2⟩
      case measure => rw [iterPos_of hit2, hpos0]; omega
    · have hnx : ∀ ty, (Instr.next (.pointer (some ⟨w.heap.size, 0, none⟩)) true ty).run Tryd.prog wr = _ := fun ty => Lib.run_next_end_at wr w.heap.size s pos ty hit hp
      go_wp2
      go_ret
      exact ⟨rfl, hbw.out⟩

theorem last_big (r : Nat) : 128 ≤ (UInt8.ofNat (128 + r % 64)).toNat := by
  have := M.u8 (128 + r % 64) (by omega)
  omega
set_option maxRecDepth 100000 in
theorem enc_last (r : Nat) (h : M.right (r : Int) = true) (hr : 128 ≤ r) : ∃ (a : List UInt8) (c : UInt8), Utf8.encode (r : Int) = ⟨(a ++ [c]).toArray⟩ ∧ 1 ≤ a.length ∧ a.length ≤ 3 ∧ 128 ≤ c.toNat := by
  have hb := M.right_bd h
  have he := M.enc_eq r h
  have hd : Utf8.encode (r : Int) = ⟨(M.enc (r : Int)).toArray⟩ := by unfold M.enc; simp
  have h1 := last_big r
  rw [hd, he, if_neg (by omega)]
  by_cases h2 : r < 2048
  · rw [if_pos h2]; exact ⟨[UInt8.ofNat (192 + r / 64)], _, by simp only [List.cons_append, List.nil_append], by simp, by simp, h1⟩
  · rw [if_neg h2]
    by_cases h3 : r < 65536
    · rw [if_pos h3]; exact ⟨[UInt8.ofNat (224 + r / 4096), UInt8.ofNat (128 + r / 64 % 64)], _, by simp only [List.cons_append, List.nil_append], by simp, by simp, h1⟩
    · rw [if_neg h3]; exact ⟨[UInt8.ofNat (240 + r / 262144), UInt8.ofNat (128 + r / 4096 % 64), UInt8.ofNat (128 + r / 64 % 64)], _, by simp only [List.cons_append, List.nil_append], by simp, by simp, h1⟩

theorem last_get (a : List UInt8) (c : UInt8) (t : ByteArray) (ht : t = ⟨(a ++ [c]).toArray⟩) : t.size = a.length + 1 ∧ ∀ hk : a.length < t.size, t[a.length]'hk = c := by
  subst ht
  refine ⟨by show (a ++ [c]).toArray.size = _; simp, fun hk => ?_⟩
  show (a ++ [c]).toArray[a.length]'_ = c
  simp

set_option maxRecDepth 100000 in
set_option maxHeartbeats 2000000 in
theorem index_wide (s : ByteArray) (r : Int) (w : World) (hA : ∀ b ∈ s.data.toList, b.toNat < 128) (hR : M.right r = true) (hv : Lib.validRune r = true) (hr : 128 ≤ r) (hne : r ≠ 65533) :
    Calls Tryd.prog 102 #[.string s, .int .i32 r] w fun e w' => e = .returned (.int .i64 (-1)) ∧ Below w.heap.size w w' := by
  have HA : Hid _ := hA
  clear hA
  obtain ⟨r, rfl⟩ : ∃ n : Nat, r = (n : Int) := ⟨r.toNat, by omega⟩
  have hne' : ((r : Int) == 65533) = false := by simp [hne]
  obtain ⟨a, c, he, ha1, ha2, hc⟩ := enc_last r hR (by omega)
  obtain ⟨hsz, hget⟩ := last_get a c _ he
  have HE : Hid _ := he
  clear he
  have h0 : ¬ (r : Int) < 128 := by omega
  go_enter Tryd.func102, Tryd.ntmps102
  go_wp2_with (go_at_call 110; refine (Any.utf8_ValidRune Tryd.lays119 r _).mono ?_; rintro e w1 ⟨rfl, rfl⟩; rw [hv])
  go_step3
  go_wp2
  go_loopw [9] (fun i wr => i = .int .i64 a.length ∧ wr = w1) (fun _ _ => 0)
  case atStart => exact ⟨rfl, rfl⟩
  case round =>
    obtain ⟨rfl, rfl⟩ := hrel
    by_cases hlt : a.length < s.size
    · have hb := get_lt HA.out a.length hlt
      have q1 : (a.length : Int) + 1 ≤ (s.size : Int) := by omega
      have q0 : IntKind.i64.wrap ((a.length : Int) + 1) = (a.length : Int) + 1 := by
        have h3 : a.length = 1 ∨ a.length = 2 ∨ a.length = 3 := by omega
        rcases h3 with h | h | h <;> rw [h] <;> rfl
      have q2 : (0 : Int) ≤ (a.length : Int) + 1 := by omega
      have q3 : ((a.length : Int) + 1).toNat = a.length + 1 := by omega
      have hx : Hid ((((s[a.length]'hlt).toNat : Int) != (c.toNat : Int)) = true) := by show _ = _; simp; omega
      go_wp2
      go_step3
      go_wp2
      go_quiet (fail)
      rw [hx.out]
      clear hb hx
      go_wp2
      have hlt2 : a.length < (Utf8.encode (r : Int)).size := by rw [hsz]; omega
      have hix : ∀ w, (Instr.index 9 (.string (Utf8.encode (r : Int))) (.int .i64 a.length)).run Tryd.prog w = .ok (.int .u8 c.toNat) w := by
        intro w
        have := hget hlt2
        have h9 := Tryd.underlying9
        have q4 : (a.length : Int) < (a.length : Int) + 1 := by omega
        simp [go_sem, hsz, this, h9, q4]
      have hno : Lib.indexByte (s.extract (a.length + 1) s.size).data.toList ((c.toNat : Int).toNat.toUInt8) = -1 := by
        apply index_none
        intro hm
        have := HA.out _ (ext_mem hm)
        simp at this
        omega
      go_region_with (first | (go_at_call 109; refine (byte_any _ _ _).mono ?_; rintro e w2 ⟨rfl, rfl⟩; rw [hno]))
      all_goals go_wp2
      rw [Exit.noGoto_ret]
      change Exit.noGoto (Exit.inBlock 0 _) Exit.ret _ _
      rw [Exit.noGoto_ret]
      simp only [Exit.inBlock, Exit.then]
      rw [Exit.noGoto_ret]
      go_ret
      exact ⟨rfl, below_drewN (Below.refl _ _) _⟩
    · go_wp2
      rw [Exit.noGoto_ret]
      go_ret
      exact ⟨rfl, Below.refl _ _⟩

/-- whether a rune is among those of a text of ASCII -/
theorem contains_any (s : ByteArray) (r : Int) (w : World) (hA : ∀ b ∈ s.data.toList, b.toNat < 128) (hr : r = -1 ∨ M.right r = true) :
    Calls Tryd.prog 87 #[.string s, .int .i32 r] w fun e w' => e = .returned (.bool (decide (r ∈ T.bts s))) ∧ Below w.heap.size w w' := by
  by_cases h : 0 ≤ r ∧ r < 128
  · exact contains_ascii s r w h.1 h.2
  · have h' : r < 0 ∨ 128 ≤ r := by omega
    refine contains_of s r w hA h' ?_
    by_cases h1 : r = 65533
    · subst h1; exact index_fffd s w hA
    · rcases hr with rfl | hR
      · exact index_bad s (-1) w (by decide) h' h1
      · have h0 : 0 ≤ r := by unfold M.right at hR; exact (of_decide_eq_true hR).1
        cases hv : Lib.validRune r with
        | true => exact index_wide s r w hA hR hv (by omega) h1
        | false => exact index_bad s r w hv h' h1

end Go.Proofs.YtbepnmmcdllklaaDoor
