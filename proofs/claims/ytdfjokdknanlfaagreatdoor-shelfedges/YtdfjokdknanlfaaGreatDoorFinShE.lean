/-
  Whatever comes in: scriptlaw16.ShelfEdges returns true, and each argument reads behind the call as it read before. (The row lists tables and sentinels of the library; the card ties them to the program's text.)
-/
import Derived.Test.YtdfjokdknanlfaaGreatDoorTpComp
import Derived.Test.YtdfjokdknanlfaaGreatDoorShScrQ
import Derived.Test.YtdfjokdknanlfaaGreatDoorMCut
import Derived.Test.YtdfjokdknanlfaaGreatDoorMath
import Derived.Test.YtdfjokdknanlfaaGreatDoorTClass4
namespace Go.Proofs.YtdfjokdknanlfaaGreatDoor
open Go.RowKit

set_option maxHeartbeats 1000000 in
theorem refEncode_yes (w : World) (v : Value) (zs : List Int) (R : L.Rd w v .i32 zs) (hl : zs.length ≤ 1099511627776) (hall : ∀ z ∈ zs, M.right z = true) :
    Calls Tryz.prog 13 #[v] w fun e w' => e = .returned (.tuple #[.string (runesBytes zs), .int .i64 0]) ∧ Below w.heap.size w w' := by
  obtain ⟨i0, hi, hz0, hz1, hz2⟩ := info_parts Tryz.infoU8
  have HR0 : Hid (L.Rd w v .i32 zs) := R
  obtain ⟨ao, cap, rfl, hn, hc⟩ := R
  go_enter Tryz.func13, Tryz.ntmps13
  go_wp2
  go_loopw [4, 9] (fun v4 i wr => ∃ k : Nat, k ≤ zs.length ∧ i = .int .i64 k ∧ wr.ownsRow w.heap.size 5 1 v4 ((zs.take k).flatMap encI).length (((zs.take k).flatMap encI).map (Value.int .u8)) ∧ Below w.heap.size w wr) (fun _ i _ => zs.length - (RowKit.intOf i).toNat)
  case atStart => exact ⟨0, Nat.zero_le _, rfl, World.ownsRow_nil _ _ _ _, Below.refl _ _⟩
  case round =>
    obtain ⟨k, hk, rfl, hown, hbw⟩ := hrel
    have hsz := hbw.size
    by_cases hlt : k < zs.length
    · obtain ⟨b, off, rfl, hcell⟩ := hc (by intro h; subst h; simp at hlt)
      obtain ⟨x, hx⟩ : ∃ x, zs[k]? = some x := ⟨zs[k], by simp [hlt]⟩
      have c0 := hcell k x hx
      have c1 := (hbw.cell (p := ⟨b, off + k, none⟩) (L.block_lt c0)).trans c0
      have hxr := hall x (List.mem_of_getElem? hx)
      have hx0 := zd3 hxr
      obtain ⟨r, rfl⟩ : ∃ r : Nat, x = (r : Int) := ⟨x.toNat, by omega⟩
      have hr4 := zkn r hxr
      have HR : Hid (M.right (r : Int) = true) := hxr
      have HT : Hid ((zs.take (k + 1)).flatMap encI = (zs.take k).flatMap encI ++ encI (r : Int)) := by
        show _ = _
        rw [List.take_add_one, hx]; simp
      have hfl : ((zs.take k).flatMap encI).length ≤ 4 * k := by
        have := zg5 (zs.take k) (fun z hz => hall z (List.mem_of_mem_take hz))
        rw [List.length_take] at this
        omega
      clear c0 hcell hx hc hxr
      go_wp2_with (go_at_call 17; go_must (refine (zb0 _ _).mono ?_; rintro e w' ⟨rfl, rfl⟩; rw [HR.out]))
      refine (zib r _ HR.out).mono ?_
      rintro e w1 ⟨v1, rfl, R1, hb1⟩
      have own1 := L.za9 hown hb1 (Nat.le_refl _)
      have bw1 := hbw.trans (hb1.mono hsz)
      have hz1w := bw1.size
      clear hown hb1 hbw
      go_wp2_with (at_builtin; go_must (refine L.za3 rfl (.tmp 16) (.tmp 18) 33 rfl w.heap.size 5 i0 .u8 1 Tryz.underlying33 hi hz0 hz1 hz2 _ _ _ rfl own1 _ _ rfl R1 (by unfold maxLen; omega) (by omega) (by omega) ?_; intro v5 w5 own5 hg5; have bw5 : Below w.heap.size w w5 := Below.grown bw1 hg5 (by omega) (fun j hj => (own1.lt j hj).1)))
      go_roundw
      case rel => exact ⟨k + 1, by omega, by go_num, (by rw [HT.out]; simpa using own5), bw5⟩
      case measure => simp [RowKit.intOf]; omega
    · rw [List.take_of_length_le (by omega)] at hown
      obtain ⟨ao', n', cap', rfl, hcv⟩ := zme (P := Tryz.prog) 33 9 5 Tryz.underlying33 Tryz.underlying5 Tryz.underlying9 hown
      clear hown
      go_wp2
      go_ret2
      exact ⟨rfl, hbw⟩

set_option maxHeartbeats 1000000 in
theorem shDecode_cap (s : ByteArray) (hs : s.size ≤ 1099511627776) (w : World) : Calls Tryz.prog 10 #[.string s] w fun e w' => ∃ xo xc, e = .returned (.slice xo (M.rn s).length xc) ∧ L.Rd w' (.slice xo (M.rn s).length xc) .i32 (M.rn s) ∧ (M.rn s).length ≤ xc ∧ Below w.heap.size w w' := by
  have h : Calls Tryz.prog 14 #[.string s] w fun e w' => ∃ xo xc v2, e = .returned (.tuple #[.slice xo (M.rn s).length xc, v2, .int .i64 (M.sp s.data.toList : Int)]) ∧ L.Rd w' (.slice xo (M.rn s).length xc) .i32 (M.rn s) ∧ (M.rn s).length ≤ xc ∧ Below w.heap.size w w' := by
    refine (zj6 s w hs).mono ?_
    rintro e w' ⟨v1, v2, h1, own, _, hb⟩
    subst h1
    rcases own.2 with ⟨hv, h0⟩ | ⟨g, cap, cur, hv, _, _, hc, _⟩
    · have := L.Rd.za0 own
      rw [hv] at this
      rw [hv]
      refine ⟨none, 0, v2, by rw [h0], ?_, by omega, hb⟩
      rw [h0]; exact this
    · have := L.Rd.za0 own
      rw [hv] at this
      rw [hv]
      exact ⟨_, cap, v2, rfl, this, hc, hb⟩
  generalize M.rn s = tx at h ⊢
  generalize M.sp s.data.toList = cnt at h
  go_enter Tryz.func10, Tryz.ntmps10
  go_wp2_with fail
  refine h.mono ?_
  clear h
  rintro e w1 ⟨xo, xc, v2, rfl, hr, hc, b1⟩
  have HR : Hid (L.Rd w1 (.slice xo tx.length xc) .i32 tx ∧ tx.length ≤ xc ∧ Below w.heap.size w w1) := ⟨hr, hc, b1⟩
  clear hr hc b1
  go_wp2
  go_ret
  exact ⟨_, _, rfl, HR.out.1, HR.out.2.1, HR.out.2.2⟩
end Go.Proofs.YtdfjokdknanlfaaGreatDoor
namespace Go.Proofs.YtdfjokdknanlfaaGreatDoor
open Go.RowKit Go.Lib
set_option maxRecDepth 20000
set_option linter.unusedSimpArgs false
set_option linter.unusedVariables false

set_option maxHeartbeats 8000000 in
theorem shelfEdges_any (hK : T.ClassOk) (w : World) (s : ByteArray) : Calls Tryz.prog 4 #[.string s] w fun e w' => e = .returned (.bool true) ∧ Below w.heap.size w w' := by
  have HS : Hid (∀ X, Calls Tryz.prog 9 #[.string s] X fun e w' => e = .returned (.bool (decide (s.size ≤ 1000))) ∧ w' = X) := fun X => zbu s X
  by_cases hs : s.size ≤ 1000
  · rw [decide_eq_true hs] at HS
    obtain ⟨pl, hpl⟩ := Cn.ze6
    have HD : Hid (∀ X, Calls Tryz.prog 10 #[.string s] X fun e w' => ∃ xo xc, e = .returned (.slice xo (M.rn s).length xc) ∧ L.Rd w' (.slice xo (M.rn s).length xc) .i32 (M.rn s) ∧ (M.rn s).length ≤ xc ∧ Below X.heap.size X w') := fun X => shDecode_cap s (by omega) X
    have htl : (M.rn s).length ≤ 1000 := Nat.le_trans (M.zb9 s) hs
    have hR := zcu s
    have hRb : ∀ z ∈ Sh.ed (M.rn s), M.right z = true := fun z hz => hR z (Sh.ed_mem _ _ hz)
    have hle : (Sh.ed (M.rn s)).length ≤ 1000 := Nat.le_trans (Sh.ed_len _) htl
    have HT1 : Hid (∀ X, Calls Tryz.prog 12 #[.string { data := #[101, 100, 103, 101, 115] }, .string s, .string (runesBytes (Sh.ed (M.rn s)))] X fun e w' => e = .returned (.bool true) ∧ Below X.heap.size X w') := fun X =>
      zbl hK Sh.nEdges _ Sh.scr_e s (by omega) pl hpl _ (Sh.go_e hpl htl hR) hRb _ rfl X
    have HEn : Hid (∀ X v, L.Rd X v .i32 (Sh.ed (M.rn s)) → Calls Tryz.prog 13 #[v] X fun e w' => e = .returned (.tuple #[.string (runesBytes (Sh.ed (M.rn s))), .int .i64 0]) ∧ Below X.heap.size X w') := fun X v hv => refEncode_yes X v _ hv (by omega) hRb
    clear hRb hR hs hle
    generalize M.rn s = tx at HD htl HT1 HEn
    go_enter Tryz.func4, Tryz.ntmps4
    go_wp2_with fail
    refine (HS.out _).mono ?_
    rintro e w0 ⟨rfl, rfl⟩
    clear HS
    go_wp2_with fail
    refine (HD.out _).mono ?_
    clear HD
    rintro e w1 ⟨xo, xc, rfl, hd, hcap, b1⟩
    have HB1 : Hid (Below w0.heap.size w0 w1 ∧ L.Rd w1 (.slice xo tx.length xc) .i32 tx ∧ tx.length ≤ xc) := ⟨b1, hd, hcap⟩
    clear b1 hd hcap
    obtain ⟨N0, hN0⟩ : ∃ n, n = tx.length := ⟨_, rfl⟩
    rw [← hN0]
    have HN0 : Hid (N0 = tx.length) := hN0
    clear hN0
    go_wp2
    go_loopw [3] (fun v wr => ∃ (l : List Int) (ao : Option Addr) (n cap : Nat), v = .slice ao n cap ∧ Hid (n = l.length ∧ l.length ≤ tx.length) ∧ Hid (L.Rd wr (.slice ao l.length cap) .i32 l ∧ l.length ≤ cap) ∧ Hid (Sh.ed l = Sh.ed tx) ∧ Hid (Below w0.heap.size w0 wr)) (fun v _ => Sh.vlen v)
    case atStart => exact ⟨tx, xo, N0, xc, rfl, ⟨HN0.out, Nat.le_refl _⟩, HB1.out.2, rfl, HB1.out.1⟩
    case round =>
      obtain ⟨l, ao, n, cap, rfl, HN, HL, HE, HB⟩ := hrel
      have hn := HN.out.1
      cases l with
      | nil =>
        have hn0 : n = 0 := by simpa using hn
        subst hn0
        have h0 : Sh.ed tx = [] := by rw [← HE.out]; rfl
        rw [h0] at HT1 HEn
        have hEn := HEn.out wr (.slice ao 0 cap) HL.out.1
        clear h0 hn HEn HE HL HN HN0 HB1
        go_wp2_with fail
        refine hEn.mono ?_
        clear hEn
        rintro e w2 ⟨rfl, b2⟩
        have HB2 : Hid (Below w0.heap.size w0 w2) := HB.out.trans (b2.mono HB.out.size)
        clear b2
        go_wp2_with fail
        refine (HT1.out _).mono ?_
        clear HT1
        rintro e w3 ⟨rfl, b3⟩
        have HB3 : Hid (Below w0.heap.size w0 w3) := HB2.out.trans (b3.mono HB2.out.size)
        clear b3
        go_wp2
        go_ret
        exact ⟨rfl, HB3.out⟩
      | cons r l =>
        obtain ⟨ao', cap', e', _, hc⟩ := id HL.out.1
        obtain ⟨rfl, -, rfl⟩ := Value.slice.inj e'
        obtain ⟨b, off, rfl, hcell⟩ := hc (by simp)
        have c0 := hcell 0 r rfl
        rw [Nat.add_zero] at c0
        have hpos : 0 < n := by rw [hn]; simp
        by_cases h1 : r = 32
        · subst h1
          have hsl : ∀ w', (Instr.slice 23 (.slice (some ⟨b, off, none⟩) n cap) (some (.int .i64 1)) none none).run Tryz.prog w' = .ok (.slice (if cap = 1 then some (⟨b, off, none⟩ : Addr) else Option.map (fun x : Addr => x.add 1) (some (⟨b, off, none⟩ : Addr))) (n - 1) (cap - 1)) w' := fun w' => by
            have h := K.zb8 (some ⟨b, off, none⟩) n cap 1 (by omega) (by rw [hn]; exact HL.out.2) w'
            exact h
          have hrd := K.ze4 HL.out.1 (d := 1) (by simp) HL.out.2
          have HL2 : Hid (L.Rd wr (.slice (if cap = 1 then some (⟨b, off, none⟩ : Addr) else Option.map (fun x : Addr => x.add 1) (some (⟨b, off, none⟩ : Addr))) l.length (cap - 1)) .i32 l ∧ l.length ≤ cap - 1) := ⟨by simpa using hrd, by have := HL.out.2; simp at this; omega⟩
          have HN2 : Hid (n - 1 = l.length ∧ l.length ≤ tx.length) := ⟨by rw [hn]; simp, by have := HN.out.2; simp at this; omega⟩
          have HE2 : Hid (Sh.ed l = Sh.ed tx) := by have h := HE.out; rw [Sh.ed, if_pos rfl] at h; exact h
          generalize (if cap = 1 then some (⟨b, off, none⟩ : Addr) else Option.map (fun x : Addr => x.add 1) (some (⟨b, off, none⟩ : Addr))) = ao2 at hsl HL2
          clear hn hcell hc hrd e' HL HN HE
          go_wp2
          go_roundw
          case rel => exact ⟨l, ao2, n - 1, cap - 1, rfl, HN2, HL2, HE2, HB⟩
          case measure => simp [Sh.vlen]; omega
        · -- the end of the loop: one blank at the end
          have hed : Sh.ed tx = Sh.ed1 (r :: l) := by rw [← HE.out, Sh.ed, if_neg h1]
          obtain ⟨x, hx⟩ : ∃ x, (r :: l)[n - 1]? = some x := ⟨(r :: l)[n - 1]'(by rw [hn]; simp), by simp⟩
          have c1 := hcell (n - 1) x hx
          have hlast : (r :: l).getLast? = some x := by rw [List.getLast?_eq_getElem?, ← hn]; exact hx
          have hnI : (0 : Int) < (n : Int) := by omega
          obtain ⟨m, rfl⟩ : ∃ m, n = m + 1 := ⟨n - 1, by omega⟩
          simp only [Nat.add_sub_cancel] at c1 hx
          have hmb : m < 1000 := by have := HN.out.1; have := HN.out.2; omega
          by_cases h2 : x = 32
          · subst h2
            have h3 : Sh.ed tx = (r :: l).take m := by rw [hed]; unfold Sh.ed1; rw [if_pos hlast, List.dropLast_eq_take, ← hn]; simp
            have hsl : ∀ w', (Instr.slice 23 (.slice (some ⟨b, off, none⟩) (m + 1) cap) none (some (.int .i64 (m : Int))) none).run Tryz.prog w' = .ok (.slice (some ⟨b, off, none⟩) m cap) w' := fun w' => K.zcs (some ⟨b, off, none⟩) (m + 1) cap m (by have := HL.out.2; omega) w'
            have hrd := K.zgx HL.out.1 (n := m) (by omega)
            have hEn := HEn.out wr (.slice (some ⟨b, off, none⟩) m cap) (by rw [h3]; exact hrd)
            clear hn hcell hc hrd e' HL HN HE HEn hed hlast hx h3
            go_wp2_with fail
            refine hEn.mono ?_
            clear hEn
            rintro e w2 ⟨rfl, b2⟩
            have HB2 : Hid (Below w0.heap.size w0 w2) := HB.out.trans (b2.mono HB.out.size)
            clear b2
            go_wp2_with fail
            refine (HT1.out _).mono ?_
            clear HT1
            rintro e w3 ⟨rfl, b3⟩
            have HB3 : Hid (Below w0.heap.size w0 w3) := HB2.out.trans (b3.mono HB2.out.size)
            clear b3
            go_wp2
            go_ret
            exact ⟨rfl, HB3.out⟩
          · have h3 : Sh.ed tx = r :: l := by rw [hed]; unfold Sh.ed1; rw [if_neg (by rw [hlast]; intro h; exact h2 (Option.some.inj h))]
            have h6 : (x == 32) = false := by simp; exact h2
            have hEn := HEn.out wr (.slice (some ⟨b, off, none⟩) (m + 1) cap) (by rw [h3, hn]; exact HL.out.1)
            clear hn hcell hc e' HL HN HE HEn hed hlast hx h3
            go_wp2_with fail
            refine hEn.mono ?_
            clear hEn
            rintro e w2 ⟨rfl, b2⟩
            have HB2 : Hid (Below w0.heap.size w0 w2) := HB.out.trans (b2.mono HB.out.size)
            clear b2
            go_wp2_with fail
            refine (HT1.out _).mono ?_
            clear HT1
            rintro e w3 ⟨rfl, b3⟩
            have HB3 : Hid (Below w0.heap.size w0 w3) := HB2.out.trans (b3.mono HB2.out.size)
            clear b3
            go_wp2
            go_ret
            exact ⟨rfl, HB3.out⟩
  · rw [decide_eq_false hs] at HS
    clear hs
    go_enter Tryz.func4, Tryz.ntmps4
    go_wp2_with fail
    refine (HS.out _).mono ?_
    rintro e w0 ⟨rfl, rfl⟩
    clear HS
    go_wp2
    go_ret
    exact ⟨rfl, Below.refl _ _⟩

end Go.Proofs.YtdfjokdknanlfaaGreatDoor
namespace Go.Proofs.YtdfjokdknanlfaaGreatDoor
open Go.ChangeShapes Go.WideShapes Go.ChangeAt Go.RowKit
open Go.ChangeMaps (open_string shut_string)
set_option linter.unusedVariables false
set_option linter.unusedSimpArgs false

set_option maxRecDepth 100000 in
theorem shelfEdgesArgs {H : Type} {enc : TypeId × Value → H} {W : World} {base : Nat} {args : Array Value} {ds gs : List (DataW H)} {p : List MemPlace}
    (hval : ∀ (j : Nat) t v, Tryz.f4.params[j]? = some t → args[j]? = some v → Value.okWide Tryz.prog W .any base t v)
    (hA : DataW.TrodAll enc Tryz.prog W 0 (fun _ => true) true Tryz.f4.params.toList args.toList ds p)  :
    Calls Tryz.prog 4 args W fun e W' => e = .returned (.bool true) ∧ Below W.heap.size W W' := by
  rw [Tryz.params4] at hA hval
  obtain ⟨v0, vs0, d0, ds0, p0, q0, hargs, rfl, rfl, h0, r0⟩ := trodAll_cons hA
  obtain ⟨rfl, rfl, rfl⟩ := trodAll_nil r0
  obtain rfl : args = #[v0] := by cases args; simp_all
  obtain ⟨a0, rfl, rfl, rfl, w0⟩ := open_string Tryz.underlying9 (hval 0 9 v0 rfl rfl) h0
  exact shelfEdges_any zdx W a0

set_option maxRecDepth 100000 in
theorem shelfEdgesContract (H : Type) (enc : TypeId × Value → H) (F : Stop.Interp) (W : World) (base : Nat) (args : Array Value) (ds gs : List (DataW H)) (before : List MemPlace)
    (hval : ∀ (j : Nat) t v, Tryz.f4.params[j]? = some t → args[j]? = some v → Value.okWide Tryz.prog W .any base t v)
    (hW : DataW.Whole enc Tryz.prog Tryz.f4.params.toList (OpenSpec.ofChange Rows.shelfEdgesSpec).vars false W args.toList ds gs before) (hL : laidMetH Tryz.prog Rows.shelfEdgesRow.laid W) :
    Calls Tryz.prog 4 args W fun e W' => ∃ v, e = .returned v ∧ ((OpenSpec.ofChange Rows.shelfEdgesSpec).at F).post enc Tryz.prog Tryz.f4 false true false false W args v W' := by
  have hW' := hW
  obtain ⟨p, q, hA0, hV, rfl, hfz, hnd⟩ := hW
  have hA : DataW.TrodAll enc Tryz.prog W 0 (fun _ => true) true Tryz.f4.params.toList args.toList ds p := hA0
  obtain ⟨rfl, rfl⟩ := trodVars_none hV
  refine (shelfEdgesArgs hval hA (gs := [])).mono fun e W' ⟨he, bel⟩ => ?_
  subst he
  have hA' := za8 Tryz.laidOut bel _ _ _ _ (by kernel_rfl) hA
  obtain ⟨x0, rfl⟩ : ∃ x0, ds = [x0] := by
    rw [Tryz.params4] at hA
    obtain ⟨v0, vs0, d0, ds0, p0, q0, hargs, rfl, rfl, h0, r0⟩ := trodAll_cons hA
    obtain ⟨rfl, rfl, rfl⟩ := trodAll_nil r0
    exact ⟨_, rfl⟩
  exact ⟨_, rfl, _, _, _, [], p, [], hW', trodAll_mk1 (shut_bool Tryz.underlying4 _), hA', rfl, bel.frame _, fun h => by cases h⟩

/-- a world that holds the tables and the sentinels -/
noncomputable def shelfEdgesLow : Nat := (World.holding Tryz.prog default ⟨#[], #[], []⟩).heap.size
noncomputable def shelfEdgesWorld (os : Os) : World :=
  let w0 := World.holding Tryz.prog os ⟨#[.cells #[.string ⟨#[105, 110, 118, 97, 108, 105, 100, 32, 115, 121, 110, 116, 97, 120]⟩] 278, .cells #[.string ⟨#[118, 97, 108, 117, 101, 32, 111, 117, 116, 32, 111, 102, 32, 114, 97, 110, 103, 101]⟩] 278], #[], []⟩
  { w0 with heap := ((((w0.heap.modify 3 (relay pow10Cells)).modify 4 (relay tab32Cells)).modify 5 (relay tab64Cells)).modify 1 (relay #[.iface 276 (.pointer (some ⟨shelfEdgesLow, 0, none⟩))])).modify 2 (relay #[.iface 276 (.pointer (some ⟨shelfEdgesLow + 1, 0, none⟩))]) }
theorem shelfEdgesMet (os : Os) : laidMet Tryz.prog Rows.shelfEdgesRow.laid ((shelfEdgesWorld os).forCall (fun _ _ => 0) ⟨#[], #[.string .empty], []⟩).memory :=
  laidMet_of_run' 8 (by kernel_rfl) (by kernel_rfl)
theorem shelfEdgesReads (os : Os) {H : Type} (enc : TypeId × Value → H) : ∃ places, DataW.whole enc Tryz.prog ((shelfEdgesWorld os).forCall (fun _ _ => 0) ⟨#[], #[.string .empty], []⟩).memory Tryz.f4.params.toList (OpenSpec.ofChange Rows.shelfEdgesSpec).vars false (#[.string .empty] : Array Value).toList 8 = some ([.lit (.string [])], [], places) :=
  ⟨[], by kernel_rfl⟩

set_option maxRecDepth 100000 in
theorem shelfEdgesLifted (os : Os) (started : os.Started) (H : Type) (enc : TypeId × Value → H) (F : Stop.Interp) :
    ReturnsInHanded {} Tryz.checked os 4 .any ((OpenSpec.ofChange Rows.shelfEdgesSpec).preRow enc Tryz.prog Tryz.f4 Rows.shelfEdgesRow.domain false Rows.shelfEdgesRow.laid) (((OpenSpec.ofChange Rows.shelfEdgesSpec).at F).post enc Tryz.prog Tryz.f4 false true false false) := by
  obtain ⟨places, hx⟩ := shelfEdgesReads os enc
  refine returnsInHanded_of_row (C := Tryz.checked) (s := (OpenSpec.ofChange Rows.shelfEdgesSpec)) Tryz.own started (by kernel_rfl) Tryz.func4
    (witness_row_at (enc := enc) (C := Tryz.checked) false (shelfEdgesWorld os) #[.string .empty] rfl (by kernel_rfl) (by kernel_rfl) (by kernel_rfl)
      (OpenSpec.preRow_of_cond 8 hx (by kernel_rfl) (fun k hk => by cases hk) (by kernel_rfl) (shelfEdgesMet os))) ?_
  intro W base args ds gs before hval hW _ hk _ hL _ _
  exact shelfEdgesContract H enc F W base args ds gs before hval hW hL

theorem shelfEdgesC0 : (Rows.shelfEdgesRow.inPlace == Tryz.pinned.checked.prog.inPlace 4) = true := by kernel_rfl
theorem shelfEdgesC1 : (Rows.shelfEdgesRow.unfollowed == Tryz.pinned.checked.prog.unfollowed 4) = true := by kernel_rfl
theorem shelfEdgesC2 : (Rows.shelfEdgesRow.recurses == Tryz.pinned.checked.prog.recurses 4) = true := by kernel_rfl
theorem shelfEdgesC3 : (Rows.shelfEdgesRow.named == Tryz.pinned.checked.prog.varsNamed 4) = true := by kernel_rfl
theorem shelfEdgesClosed : joinedFacts Tryz.pinned.checked.prog 4 Tryz.f4 (OpenSpec.ofChange Rows.shelfEdgesSpec).bare Rows.shelfEdgesRow = true := by
  unfold joinedFacts
  rw [shelfEdgesC0, shelfEdgesC1, shelfEdgesC2, shelfEdgesC3]
  kernel_rfl
theorem shelfEdgesNamed : Tryz.pinned.checked.prog.funcNamed Rows.shelfEdgesRow.func = some 4 := by kernel_rfl

theorem shelfEdgesSaid : Rows.ShelfEdgesSaid :=
  OpenClaim.holds_of_cond 4 Tryz.f4 rfl rfl rfl rfl rfl rfl rfl ⟨rfl, rfl, rfl, rfl, rfl⟩ rfl rfl rfl rfl rfl shelfEdgesNamed Tryz.func4 shelfEdgesClosed
    (of_decide_eq_true (by kernel_rfl)) (by unfold Func.isWrapper; first | (rw [if_pos (by decide +kernel)]; kernel_rfl) | (rw [if_neg (by decide +kernel)]; exact ⟨rfl, rfl⟩))
    (fun os started H enc _ F => by rw [OpenClaim.pre_eq_preRow]; exact shelfEdgesLifted os started H enc F)

theorem shelfEdgesPlain (f : FuncId) (fn : Func) (hf : Tryz.pinned.checked.prog.funcNamed "scriptshift/scriptlaw16.ShelfEdges" = some f) (hfn : Tryz.pinned.checked.prog.funcs[f]? = some fn) :
    true = Tryz.pinned.checked.prog.looks [] ∧ ∀ (j : Nat) t, fn.params[j]? = some t → Tryz.pinned.checked.prog.wantsStandIn t = false := by
  obtain rfl : f = 4 := Option.some.inj ((show Tryz.prog.funcNamed "scriptshift/scriptlaw16.ShelfEdges" = some 4 by kernel_rfl).symm.trans hf) |>.symm
  obtain rfl : fn = Tryz.f4 := (Option.some.inj (Tryz.func4.symm.trans hfn)).symm
  refine ⟨by kernel_rfl, fun j t ht => ?_⟩
  rw [Tryz.params4] at ht
  have hm := Array.mem_of_getElem? ht
  have hm2 : t = 9 := by simpa using hm
  subst hm2
  exact (show Tryz.prog.wantsStandIn 9 = false by kernel_rfl)

theorem shelfEdges_card : Rows.ShelfEdgesCardSaid :=
  Claim7.holds_tied_plain_at .later [] _ _ _ _ shelfEdgesSaid (fun _ h => by cases h) (by kernel_rfl) (fun _ h => by cases h) shelfEdges_row_tie rfl ⟨rfl, rfl⟩ (by kernel_rfl) rfl shelfEdgesPlain (by kernel_rfl)

#print axioms shelfEdges_card
end Go.Proofs.YtdfjokdknanlfaaGreatDoor
