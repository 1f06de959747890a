/-
  The functions of one rune that rovar's and vowels' statements hand to by: a range over the letters of a constant text.
-/
import Derived.Test.YtgbhkkojkpndmaaGreatDoorShBy
import Derived.Test.YtgbhkkojkpndmaaGreatDoorShByP
import Derived.Test.YtgbhkkojkpndmaaGreatDoorTChar
namespace Go.Proofs.YtgbhkkojkpndmaaGreatDoor
open Go.RowKit Go.Lib
set_option maxRecDepth 20000
set_option linter.unusedSimpArgs false
set_option linter.unusedVariables false

namespace Sh
/-- a text of small runes alone -/
theorem dec_small {l : List Int} {s : ByteArray} (h : s.data.toList.map (fun b => (b.toNat : Int)) = l) (hl : ∀ c ∈ l, c < 128) {pos : Nat} {c : Int} (hc : l[pos]? = some c) : Utf8.decode s pos = (c.toNat, 1) ∧ 0 ≤ c := by
  subst h
  rw [List.getElem?_map] at hc
  cases hb : s.data.toList[pos]? with
  | none => rw [hb] at hc; cases hc
  | some b =>
    rw [hb] at hc
    simp only [Option.map_some, Option.some.injEq] at hc
    subst hc
    have h1 := hl (b.toNat : Int) (List.mem_map.2 ⟨b, List.mem_of_getElem? hb, rfl⟩)
    have hb0 : M.bt (s.data.toList.drop pos) 0 = b.toNat := by simp [M.bt, hb]
    refine ⟨?_, by omega⟩
    rw [M.zb8]; unfold M.d0 Lib.decodeN; rw [hb0, if_pos (by omega)]
    simp
def bVw : ByteArray := { data := #[65, 69, 73, 79, 85, 97, 101, 105, 111, 117] }
def bRv : ByteArray := { data := #[98, 99, 100, 102, 103, 104, 106, 107, 108, 109, 110, 112, 113, 114, 115, 116, 118, 119, 120, 122] }
theorem bVw_is : bVw.data.toList.map (fun b => (b.toNat : Int)) = vwC := by decide +kernel
theorem bRv_is : bRv.data.toList.map (fun b => (b.toNat : Int)) = rvC := by decide +kernel
theorem vwC_small : ∀ c ∈ vwC, c < 128 := by decide
theorem rvC_small : ∀ c ∈ rvC, c < 128 := by decide
end Sh

set_option maxHeartbeats 4000000 in
theorem shVow1_any (r : Int) (hr : M.right r = true) (w : World) : Calls Tryz.prog 19 #[.int .i32 r] w fun e w' => e = .returned (.string (runesBytes (Sh.by1 Sh.vwL r))) ∧ Below w.heap.size w w' := by
  have HP : Hid (∀ X, Calls Tryz.prog 13 #[.int .i32 r] X fun e w' => e = .returned (.string (runesBytes [r])) ∧ Below X.heap.size X w') := fun X => zce r hr X
  obtain ⟨o, HO⟩ : ∃ o, Hid (Sh.by1 Sh.vwL r = o) := ⟨_, rfl⟩
  rw [HO.out]
  have HD : Hid (∀ (pos : Nat) (c : Int), Sh.vwC[pos]? = some c → Utf8.decode Sh.bVw pos = (c.toNat, 1) ∧ 0 ≤ c) := fun pos c h => Sh.dec_small Sh.bVw_is Sh.vwC_small h
  have HL : Hid (Sh.vwC.length = 10) := rfl
  have hsz : Sh.bVw.size = 10 := rfl
  clear hr
  go_enter Tryz.func19, Tryz.ntmps19
  go_wp2
  rw [show ({ data := #[65, 69, 73, 79, 85, 97, 101, 105, 111, 117] } : ByteArray) = Sh.bVw from rfl]
  generalize Sh.bVw = s at HD hsz
  go_loopw [4] (fun _ wr => ∃ pos : Nat, pos ≤ 10 ∧ wr.heap[w.heap.size]? = some (.stringIter s pos) ∧ Hid (Below w.heap.size w wr) ∧ Hid (r ∉ Sh.vwC.take pos)) (fun _ wr => s.size - wr.iterPos w.heap.size)
  case atStart => exact ⟨0, by omega, World.iter_heap w s 0, (Below.refl _ _).alloc (Nat.le_refl _) _, by show _ ∉ _; simp⟩
  case round =>
    obtain ⟨pos, hp10, hit, HB, HN⟩ := hrel
    have hpos0 := iterPos_of hit
    by_cases hp : pos < s.size
    · have hnx : ∀ ty, (Instr.next (.pointer (some ⟨w.heap.size, 0, none⟩)) true ty).run Tryz.prog wr = _ := fun ty => Lib.run_next_any_at wr w.heap.size s pos ty hit hp
      have hit2 := Lib.iterAt_heap wr w.heap.size s pos (pos + (Utf8.decode s pos).2) hit
      have HB2 : Hid (Below w.heap.size w (wr.iterAt w.heap.size s (pos + (Utf8.decode s pos).2))) := Lib.below_iterAt HB.out (k := w.heap.size) (Nat.le_refl _) s (pos + (Utf8.decode s pos).2)
      obtain ⟨c, hc⟩ : ∃ c, Sh.vwC[pos]? = some c := ⟨Sh.vwC[pos]'(by rw [HL.out]; omega), by simp⟩
      obtain ⟨hdc, hc0⟩ := HD.out pos c hc
      rw [hdc] at hnx hit2 HB2
      have HT : Hid (Sh.vwC.take (pos + 1) = Sh.vwC.take pos ++ [c]) := by show _ = _; rw [List.take_add_one, hc]; rfl
      have hcc : ((c.toNat : Nat) : Int) = c := by omega
      have HM : Hid (c ∈ Sh.vwC) := List.mem_of_getElem? hc
      simp only [hcc] at hnx
      clear hdc hc hit hcc
      generalize hW : wr.iterAt w.heap.size s (pos + 1) = W1 at hnx hit2 HB2
      clear hW
      by_cases hcr : c = r
      · subst hcr
        have HE : Hid (o = []) := by show _ = _; rw [← HO.out, Sh.by_vw, if_pos HM.out]
        go_wp2
        go_ret
        exact ⟨by rw [HE.out]; first | rfl | decide +kernel, HB2.out⟩
      · have HN2 : Hid (r ∉ Sh.vwC.take (pos + 1)) := by
          show _ ∉ _
          rw [HT.out, List.mem_append]
          rintro (h | h)
          · exact HN.out h
          · simp at h; exact hcr h.symm
        go_wp2
        go_roundw
        case rel => exact ⟨pos + 1, by omega, hit2, HB2, HN2⟩
        case measure => rw [iterPos_of hit2, hpos0]; omega
    · have hpe : pos = 10 := by omega
      have hnx : ∀ ty, (Instr.next (.pointer (some ⟨w.heap.size, 0, none⟩)) true ty).run Tryz.prog wr = _ := fun ty => Lib.run_next_end_at wr w.heap.size s pos ty hit hp
      have HE : Hid (o = [r]) := by
        show _ = _
        rw [← HO.out, Sh.by_vw, if_neg]
        intro h
        apply HN.out
        rw [hpe, ← HL.out, List.take_length]; exact h
      go_wp2_with fail
      refine (HP.out _).mono ?_
      rintro e w2 ⟨rfl, b2⟩
      have HB3 : Hid (Below w.heap.size w w2) := HB.out.trans (b2.mono HB.out.size)
      clear b2
      go_wp2
      go_ret
      exact ⟨by rw [HE.out]; rfl, HB3.out⟩

set_option maxHeartbeats 4000000 in
theorem shRov1_any (r : Int) (hr : M.right r = true) (w : World) : Calls Tryz.prog 18 #[.int .i32 r] w fun e w' => e = .returned (.string (runesBytes (Sh.by1 Sh.rvL r))) ∧ Below w.heap.size w w' := by
  have HP : Hid (∀ X, Calls Tryz.prog 13 #[.int .i32 r] X fun e w' => e = .returned (.string (runesBytes [r])) ∧ Below X.heap.size X w') := fun X => zce r hr X
  obtain ⟨o, HO⟩ : ∃ o, Hid (Sh.by1 Sh.rvL r = o) := ⟨_, rfl⟩
  rw [HO.out]
  have HD : Hid (∀ (pos : Nat) (c : Int), Sh.rvC[pos]? = some c → Utf8.decode Sh.bRv pos = (c.toNat, 1) ∧ 0 ≤ c) := fun pos c h => Sh.dec_small Sh.bRv_is Sh.rvC_small h
  have HL : Hid (Sh.rvC.length = 20) := rfl
  have hsz : Sh.bRv.size = 20 := rfl
  have HRr : Hid (M.right r = true) := hr
  clear hr
  go_enter Tryz.func18, Tryz.ntmps18
  go_wp2
  rw [show ({ data := #[98, 99, 100, 102, 103, 104, 106, 107, 108, 109, 110, 112, 113, 114, 115, 116, 118, 119, 120, 122] } : ByteArray) = Sh.bRv from rfl]
  generalize Sh.bRv = s at HD hsz
  go_loopw [4] (fun _ wr => ∃ pos : Nat, pos ≤ 20 ∧ wr.heap[w.heap.size]? = some (.stringIter s pos) ∧ Hid (Below w.heap.size w wr) ∧ Hid (r ∉ Sh.rvC.take pos)) (fun _ wr => s.size - wr.iterPos w.heap.size)
  case atStart => exact ⟨0, by omega, World.iter_heap w s 0, (Below.refl _ _).alloc (Nat.le_refl _) _, by show _ ∉ _; simp⟩
  case round =>
    obtain ⟨pos, hp10, hit, HB, HN⟩ := hrel
    have hpos0 := iterPos_of hit
    by_cases hp : pos < s.size
    · have hnx : ∀ ty, (Instr.next (.pointer (some ⟨w.heap.size, 0, none⟩)) true ty).run Tryz.prog wr = _ := fun ty => Lib.run_next_any_at wr w.heap.size s pos ty hit hp
      have hit2 := Lib.iterAt_heap wr w.heap.size s pos (pos + (Utf8.decode s pos).2) hit
      have HB2 : Hid (Below w.heap.size w (wr.iterAt w.heap.size s (pos + (Utf8.decode s pos).2))) := Lib.below_iterAt HB.out (k := w.heap.size) (Nat.le_refl _) s (pos + (Utf8.decode s pos).2)
      obtain ⟨c, hc⟩ : ∃ c, Sh.rvC[pos]? = some c := ⟨Sh.rvC[pos]'(by rw [HL.out]; omega), by simp⟩
      obtain ⟨hdc, hc0⟩ := HD.out pos c hc
      rw [hdc] at hnx hit2 HB2
      have HT : Hid (Sh.rvC.take (pos + 1) = Sh.rvC.take pos ++ [c]) := by show _ = _; rw [List.take_add_one, hc]; rfl
      have hcc : ((c.toNat : Nat) : Int) = c := by omega
      have HM : Hid (c ∈ Sh.rvC) := List.mem_of_getElem? hc
      simp only [hcc] at hnx
      clear hdc hc hit hcc
      generalize hW : wr.iterAt w.heap.size s (pos + 1) = W1 at hnx hit2 HB2
      clear hW
      by_cases hcr : c = r
      · subst hcr
        have HE : Hid (o = [c, 111, c]) := by show _ = _; rw [← HO.out, Sh.by_rv, if_pos HM.out]
        have HBy : Hid (runesBytes [c, 111, c] = runesBytes [c] ++ ⟨#[111]⟩ ++ runesBytes [c]) := by
          show _ = _
          rw [show [c, 111, c] = ([c] ++ [111]) ++ [c] from rfl, Sh.zfh, Sh.zfh, show runesBytes [111] = ⟨#[111]⟩ by decide +kernel]
        have hBs : (runesBytes [c]).size ≤ 4 := by have := Sh.zcv [c] (fun z hz => by simp at hz; subst hz; exact HRr.out); simpa using this
        generalize runesBytes [c] = B at HP hBs HBy
        go_wp2_with fail
        refine (HP.out _).mono ?_
        rintro e w2 ⟨rfl, b2⟩
        have HB3 : Hid (Below w.heap.size w w2) := HB2.out.trans (b2.mono HB2.out.size)
        clear b2
        go_wp2_with fail
        refine (HP.out _).mono ?_
        rintro e w3 ⟨rfl, b3⟩
        have HB4 : Hid (Below w.heap.size w w3) := HB3.out.trans (b3.mono HB3.out.size)
        clear b3
        go_wp2
        go_ret
        exact ⟨by rw [HE.out, HBy.out]; rfl, HB4.out⟩
      · have HN2 : Hid (r ∉ Sh.rvC.take (pos + 1)) := by
          show _ ∉ _
          rw [HT.out, List.mem_append]
          rintro (h | h)
          · exact HN.out h
          · simp at h; exact hcr h.symm
        go_wp2
        go_roundw
        case rel => exact ⟨pos + 1, by omega, hit2, HB2, HN2⟩
        case measure => rw [iterPos_of hit2, hpos0]; omega
    · have hpe : pos = 20 := by omega
      have hnx : ∀ ty, (Instr.next (.pointer (some ⟨w.heap.size, 0, none⟩)) true ty).run Tryz.prog wr = _ := fun ty => Lib.run_next_end_at wr w.heap.size s pos ty hit hp
      have HE : Hid (o = [r]) := by
        show _ = _
        rw [← HO.out, Sh.by_rv, if_neg]
        intro h
        apply HN.out
        rw [hpe, ← HL.out, List.take_length]; exact h
      go_wp2_with fail
      refine (HP.out _).mono ?_
      rintro e w2 ⟨rfl, b2⟩
      have HB3 : Hid (Below w.heap.size w w2) := HB.out.trans (b2.mono HB.out.size)
      clear b2
      go_wp2
      go_ret
      exact ⟨by rw [HE.out]; rfl, HB3.out⟩

end Go.Proofs.YtgbhkkojkpndmaaGreatDoor
