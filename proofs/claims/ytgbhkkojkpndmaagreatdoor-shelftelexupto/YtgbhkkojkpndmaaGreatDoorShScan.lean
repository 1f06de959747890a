/-
  A text's bytes scanned from the left for some sources, each with what takes its place: scriptlaw16.scan.
-/
import Derived.Test.YtgbhkkojkpndmaaGreatDoorShScanM
import Derived.Test.YtgbhkkojkpndmaaGreatDoorShLaw
import Derived.Laws.Concat
import Derived.Laws.StructEq
namespace Go.Proofs.YtgbhkkojkpndmaaGreatDoor
open Go.RowKit Go.Lib
set_option maxRecDepth 20000
set_option linter.unusedSimpArgs false
set_option linter.unusedVariables false

theorem Sh.ne_toList {a b : ByteArray} (h : ¬ a = b) : (a.toList == b.toList) = false := by
  rw [ByteArray.toList_eq, ByteArray.toList_eq, beq_eq_false_iff_ne]
  intro e
  exact h (by cases a; cases b; simp only [ByteArray.mk.injEq]; exact Array.toList_inj.1 e)

/-- a row of texts in a block of its own -/
def Sh.Row (w : World) (b : Nat) (l : List (List UInt8)) : Prop := ∀ j x, l[j]? = some x → w.cell? ⟨b, j, none⟩ = some (.string (Sh.bA x))

set_option maxHeartbeats 4000000 in
theorem shScan_any (w : World) (s : ByteArray) (hs : s.size ≤ 1000) (l : List Sh.Br) (bf bt : Nat) (cf ct : Nat) (hf : Sh.Row w bf (l.map Prod.fst)) (ht : Sh.Row w bt (l.map Prod.snd)) (hl : ∀ x ∈ l, 1 ≤ x.1.length ∧ x.1.length ≤ 8 ∧ x.2.length ≤ 8) (hln : l.length ≤ 100) :
    Calls Tryz.prog 17 #[.string s, .slice (some ⟨bf, 0, none⟩) l.length cf, .slice (some ⟨bt, 0, none⟩) l.length ct] w fun e w' => e = .returned (.string (Sh.bA (Sh.bs l (Sh.bL s)))) ∧ w' = w := by
  have HF : Hid (Sh.Row w bf (l.map Prod.fst)) := hf
  have HT : Hid (Sh.Row w bt (l.map Prod.snd)) := ht
  have HL : Hid (∀ x ∈ l, 1 ≤ x.1.length ∧ x.1.length ≤ 8 ∧ x.2.length ≤ 8) := hl
  have HLs : Hid ((Sh.bL s).length = s.size) := Array.length_toList
  clear hf ht hl
  go_enter Tryz.func17, Tryz.ntmps17
  go_wp2
  go_loopw [7, 8] (fun wa i wr => ∃ (j : Nat) (acc : List UInt8), j ≤ s.size ∧ i = .int .i64 j ∧ Hid (wa = .string (Sh.bA acc)) ∧ Hid (acc.length ≤ 8 * j) ∧ Hid (acc ++ Sh.bs l ((Sh.bL s).drop j) = Sh.bs l (Sh.bL s)) ∧ wr = w) (fun _ i _ => s.size - (RowKit.intOf i).toNat)
  case atStart => exact ⟨0, [], Nat.zero_le _, rfl, by show _ = _; rfl, by show _ ≤ _; simp, by show _ = _; simp, rfl⟩
  case round =>
    obtain ⟨j, acc, hj, rfl, HWa, HA, HE, rfl⟩ := hrel
    obtain ⟨A, hA⟩ : ∃ A, A = Sh.bA acc := ⟨_, rfl⟩
    have hAs : A.size ≤ 8 * j := by rw [hA, Sh.bA_size]; exact HA.out
    have HA2 : Hid (A = Sh.bA acc) := hA
    have hwa := HWa.out
    rw [← hA] at hwa
    subst hwa
    clear HWa hA
    by_cases hlt : j < s.size
    · go_wp2
      go_loopw [7, 9, 18] (fun wa n k wx => ∃ (q : Nat) (m : Nat) (out : List UInt8), q ≤ l.length ∧ k = .int .i64 q ∧ n = .int .i64 m ∧ Hid (wa = .string (Sh.bA out)) ∧ m ≤ 8 ∧ out.length ≤ 8 * j + 8 ∧ Hid ((Sh.bpf (l.take q) ((Sh.bL s).drop j) = none ∧ m = 0 ∧ out = acc) ∨ ∃ x, Sh.bpf (l.take q) ((Sh.bL s).drop j) = some x ∧ m = x.1.length ∧ 1 ≤ m ∧ out = acc ++ x.2) ∧ wx = wr) (fun _ _ k _ => l.length - (RowKit.intOf k).toNat)
      case atStart => exact ⟨0, 0, acc, Nat.zero_le _, rfl, rfl, by show _ = _; rw [HA2.out], by omega, by have := HA.out; omega, .inl ⟨rfl, rfl, rfl⟩, rfl⟩
      case round =>
        obtain ⟨q, m, out, hq, rfl, rfl, HWb, hm8, hol, HC, rfl⟩ := hrel
        obtain ⟨B, hB⟩ : ∃ B, B = Sh.bA out := ⟨_, rfl⟩
        have hBs : B.size ≤ 8 * j + 8 := by rw [hB, Sh.bA_size]; exact hol
        have HB2 : Hid (B = Sh.bA out) := hB
        have hwb := HWb.out
        rw [← hB] at hwb
        subst hwb
        clear HWb hB
        by_cases hql : q < l.length
        · obtain ⟨x, hx⟩ : ∃ x, l[q]? = some x := ⟨l[q], by simp [hql]⟩
          have c1 := HF.out q x.1 (by rw [List.getElem?_map, hx]; rfl)
          have c2 := HT.out q x.2 (by rw [List.getElem?_map, hx]; rfl)
          have hxl := HL.out x (List.mem_of_getElem? hx)
          have HN : Hid (Sh.bpf (l.take (q + 1)) ((Sh.bL s).drop j) = (Sh.bpf (l.take q) ((Sh.bL s).drop j)).or (if x.1.isPrefixOf ((Sh.bL s).drop j) then some x else none)) := Sh.bpf_take hx
          have HPi : Hid (j + x.1.length ≤ s.size → x.1.isPrefixOf ((Sh.bL s).drop j) = decide (s.extract j (j + x.1.length) = Sh.bA x.1)) := Sh.pre_iff s j x.1
          have HPn : Hid (¬ j + x.1.length ≤ s.size → x.1.isPrefixOf ((Sh.bL s).drop j) = false) := fun h => Sh.pre_no s j x.1 h (by intro h; rw [h] at hxl; simp at hxl)
          have hfs : (Sh.bA x.1).size = x.1.length := Sh.bA_size _
          have hts : (Sh.bA x.2).size = x.2.length := Sh.bA_size _
          clear HF HT
          by_cases hm0 : m = 0
          · subst hm0
            have HC2 : Hid (Sh.bpf (l.take q) ((Sh.bL s).drop j) = none ∧ out = acc) := by
              rcases HC.out with ⟨h1, _, h2⟩ | ⟨_, _, h1, h2, _⟩
              · exact ⟨h1, h2⟩
              · omega
            clear HC
            by_cases hfit : j + x.1.length ≤ s.size
            · by_cases heq : s.extract j (j + x.1.length) = Sh.bA x.1
              · have HNs : Hid (Sh.bpf (l.take (q + 1)) ((Sh.bL s).drop j) = some x) := by
                  show _ = _
                  rw [HN.out, HC2.out.1, HPi.out hfit, decide_eq_true heq]; rfl
                clear HN HPi HPn
                go_wp2
                go_roundw
                case rel => exact ⟨q + 1, x.1.length, acc ++ x.2, by omega, by go_num, rfl, by show _ = _; rw [HB2.out, HC2.out.2, Sh.bA_app], by omega, by have := HA.out; rw [List.length_append]; omega, .inr ⟨x, HNs.out, rfl, by omega, rfl⟩, trivial⟩
                case measure => simp [RowKit.intOf]; omega
              · have HNn : Hid (Sh.bpf (l.take (q + 1)) ((Sh.bL s).drop j) = none) := by
                  show _ = _
                  rw [HN.out, HC2.out.1, HPi.out hfit, decide_eq_false heq]; rfl
                have hbe := Sh.ne_toList heq
                clear HN HPi HPn
                go_wp2
                go_roundw
                case rel => exact ⟨q + 1, 0, out, by omega, by go_num, rfl, by show _ = _; rw [HB2.out], by omega, hol, .inl ⟨HNn.out, rfl, HC2.out.2⟩, trivial⟩
                case measure => simp [RowKit.intOf]; omega
            · have HNn : Hid (Sh.bpf (l.take (q + 1)) ((Sh.bL s).drop j) = none) := by
                show _ = _
                rw [HN.out, HC2.out.1, HPn.out hfit]; rfl
              clear HN HPi HPn
              go_wp2
              go_roundw
              case rel => exact ⟨q + 1, 0, out, by omega, by go_num, rfl, by show _ = _; rw [HB2.out], by omega, hol, .inl ⟨HNn.out, rfl, HC2.out.2⟩, trivial⟩
              case measure => simp [RowKit.intOf]; omega
          · obtain ⟨y, HY⟩ : ∃ y, Hid (Sh.bpf (l.take (q + 1)) ((Sh.bL s).drop j) = some y ∧ m = y.1.length ∧ 1 ≤ m ∧ out = acc ++ y.2) := by
              rcases HC.out with ⟨_, h1, _⟩ | ⟨y, h1, h2, h3, h4⟩
              · exact absurd h1 hm0
              · exact ⟨y, by rw [HN.out, h1]; rfl, h2, h3, h4⟩
            clear HN HPi HPn HC
            go_wp2
            go_roundw
            case rel => exact ⟨q + 1, m, out, by omega, by go_num, rfl, by show _ = _; rw [HB2.out], by omega, hol, .inr ⟨y, HY.out⟩, trivial⟩
            case measure => simp [RowKit.intOf]; omega
        · have hqe : q = l.length := by omega
          subst hqe
          rw [List.take_length] at HC
          have hdr : (Sh.bL s).drop j ≠ [] := by
            intro h
            have := List.drop_eq_nil_iff.1 h
            rw [HLs.out] at this
            omega
          by_cases hm0 : m = 0
          · subst hm0
            have HC2 : Hid (Sh.bpf l ((Sh.bL s).drop j) = none ∧ out = acc) := by
              rcases HC.out with ⟨h1, _, h2⟩ | ⟨_, _, h1, h2, _⟩
              · exact ⟨h1, h2⟩
              · omega
            have HX : Hid (out ++ ((Sh.bL s).drop j).take 1 ++ Sh.bs l ((Sh.bL s).drop (j + 1)) = Sh.bs l (Sh.bL s)) := by
              show _ = _
              rw [← HE.out]
              obtain ⟨r, u, hu⟩ := List.exists_cons_of_ne_nil hdr
              have h1 := HC2.out.1
              rw [← List.drop_drop (l := Sh.bL s) (i := 1) (j := j), hu] at *
              rw [Sh.bs_on h1, HC2.out.2]
              simp
            have hex : (s.extract j (j + 1)).size = 1 := by rw [Sh.ext_take, Sh.bA_size, List.length_take, List.length_drop, HLs.out]; omega
            clear HC hdr HF HT HE
            go_wp2
            go_roundw
            case rel => exact ⟨j + 1, out ++ ((Sh.bL s).drop j).take 1, by omega, by go_num, by show _ = _; rw [HB2.out, Sh.ext_take, Sh.bA_app], by have h1 := HA.out; have h2 := HC2.out.2; show _ ≤ _; rw [h2, List.length_append, List.length_take]; omega, HX, trivial⟩
            case measure => simp [RowKit.intOf]; omega
          · obtain ⟨y, HY⟩ : ∃ y, Hid (Sh.bpf l ((Sh.bL s).drop j) = some y ∧ m = y.1.length ∧ 1 ≤ m ∧ out = acc ++ y.2) := by
              rcases HC.out with ⟨_, h1, _⟩ | ⟨y, h1, h2, h3, h4⟩
              · exact absurd h1 hm0
              · exact ⟨y, h1, h2, h3, h4⟩
            have HX : Hid (out ++ Sh.bs l ((Sh.bL s).drop (j + m)) = Sh.bs l (Sh.bL s)) := by
              show _ = _
              obtain ⟨h1, h2, h3, h4⟩ := HY.out
              rw [← HE.out, Sh.bs_put (fun x hx => (HL.out x hx).1) hdr h1, List.drop_drop, h2, h4, List.append_assoc]
            have hjm : j + m ≤ s.size := by
              have h := (Sh.bpf_mem HY.out.1).2
              rw [List.length_drop, HLs.out, ← HY.out.2.1] at h
              omega
            have hol2 : out.length ≤ 8 * (j + m) := by
              have h1 := HA.out
              have h2 := HL.out y (Sh.bpf_mem HY.out.1).1
              have h3 := congrArg List.length HY.out.2.2.2
              rw [List.length_append] at h3
              have h4 := HY.out.2.2.1
              omega
            clear HC hdr HF HT HE
            go_wp2
            go_roundw
            case rel => exact ⟨j + m, out, by omega, by go_num, by show _ = _; rw [HB2.out], hol2, HX, trivial⟩
            case measure => simp [RowKit.intOf]; omega
    · have hje : j = s.size := by omega
      subst hje
      have HE2 : Hid (Sh.bA acc = Sh.bA (Sh.bs l (Sh.bL s))) := by
        show _ = _
        have h := HE.out
        rw [← HLs.out, List.drop_length, Sh.bs_nil, List.append_nil] at h
        rw [h]
      clear HE HF HT
      go_wp2
      go_ret
      exact ⟨by rw [HA2.out, HE2.out]; rfl, rfl⟩

end Go.Proofs.YtgbhkkojkpndmaaGreatDoor
