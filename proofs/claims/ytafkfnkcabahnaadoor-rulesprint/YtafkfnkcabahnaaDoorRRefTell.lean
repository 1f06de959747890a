/-
  How items are written: the document's words.
-/
import Derived.Test.YtafkfnkcabahnaaDoorRRow
import Derived.Test.YtafkfnkcabahnaaDoorRTell3
import Derived.Test.YtafkfnkcabahnaaDoorTRefPrint
namespace Go.Proofs.YtafkfnkcabahnaaDoor
open Go.RowKit
set_option maxRecDepth 20000
set_option linter.unusedSimpArgs false
set_option linter.unusedVariables false

theorem R.Own.after {w wr w1 : World} {v : Value} {ms : List (List UInt8)} {o : Obj} (own : R.Own w.heap.size wr v ms) (hb : Below w.heap.size w wr) (gr : (wr.alloc o).grownBy w1 v.ownBlock) : Below w.heap.size w w1 :=
  Below.grown (hb.alloc hb.size o) gr (by have := hb.size; simp; omega) (fun k hk => (own.lt k hk).1)
theorem R.new_cell (w : World) (v : Value) (t : TypeId) : (w.alloc (.cells #[v] t)).cell? ⟨w.heap.size, 0, none⟩ = some v := by
  rw [World.cell?_alloc_at _ _ _ _ (by simp)]; rfl

set_option maxHeartbeats 8000000 in
theorem rWords_any (w : World) (v : Value) (l : List R.Item) (c : Int) (R0 : R.Its w v l) (hl : l.length ≤ 20) (hok : ∀ x ∈ l, R.itemE x = 0) (hc : -1 ≤ c) :
    Calls Tryd.prog 23 #[v, .int .i64 c] w fun e w' => ∃ v', e = .returned v' ∧ R.Own w.heap.size w' v' (R.itemsW l c) ∧ Below w.heap.size w w' := by
  have HR : Hid (R.Its w v l) := R0
  obtain ⟨ao, cap, rfl⟩ := R0.len
  have HOk : Hid (∀ x ∈ l, R.itemE x = 0) := hok
  obtain ⟨o, HO⟩ : ∃ o, Hid (R.itemsW l c = o) := ⟨_, rfl⟩
  have hol : o.length ≤ 41 := by rw [← HO.out]; have := R.itemsW_len (l := l) (c := c); omega
  have HOl : Hid (o.length ≤ 41) := hol
  rw [HO.out]
  clear R0 hok hol
  go_enter Tryd.func23, Tryd.ntmps23
  go_wp2
  go_loopw [5, 6] (fun vo vi wr => ∃ (k : Nat) (ms : List (List UInt8)), vi = .int .i64 k ∧ k ≤ l.length ∧ Hid (R.Own w.heap.size wr vo ms) ∧ Hid (Below w.heap.size w wr) ∧ Hid (ms ++ R.itemsW (l.drop k) (c - k) = o)) (fun _ vi _ => l.length + 1 - (intOf vi).toNat)
  case atStart => exact ⟨0, [], rfl, Nat.zero_le _, R.Own.nil _ _, Below.refl _ _, by show _ = _; rw [← HO.out]; simp⟩
  case round =>
    obtain ⟨k, ms, rfl, hk, HOw, HB, HM⟩ := hrel
    have HMl : Hid (ms.length ≤ 41) := by
      have h := congrArg List.length HM.out
      have := HOl.out
      rw [List.length_append] at h
      show _ ≤ _
      omega
    have hsz := HB.out.size
    by_cases hlt : k < l.length
    · obtain ⟨x, hx⟩ : ∃ x, l[k]? = some x := ⟨l[k], by simp [hlt]⟩
      have hnk : ((k : Int) == (l.length : Int)) = false := by simp; omega
      obtain ⟨ao', cap', e', hcs⟩ := HR.out
      cases e'
      obtain ⟨b, off, rfl, hcell⟩ := hcs (by intro h; subst h; simp at hlt)
      obtain ⟨c0, c1, c3, ⟨so, sc, c2, r2⟩, hf, hnm⟩ := hcell k x hx
      have HC : Hid (∀ W, Below w.heap.size w W → (W.cell? ⟨b, off + k * 4, none⟩ = some (.int .i64 x.kind) ∧ W.cell? ⟨b, off + k * 4 + 1, none⟩ = some (.int .i32 x.rune) ∧ W.cell? ⟨b, off + k * 4 + 2, none⟩ = some (.slice so x.set.length sc) ∧ W.cell? ⟨b, off + k * 4 + 3, none⟩ = some (.string x.name)) ∧ S.Rd W (.slice so x.set.length sc) x.set) := fun W hW =>
        have kk := R.Keeps.of_below hW (Nat.le_refl _)
        ⟨⟨kk _ _ _ c0, kk _ _ _ c1, kk _ _ _ c2, kk _ _ _ c3⟩, r2.below hW (Nat.le_refl _)⟩
      have hix := HOk.out x (List.mem_of_getElem? hx)
      have hw := R.itemsW_drop (c := c) hx
      rw [hw] at HM
      have HM1 : Hid (ms ++ ((if (k : Int) = c then [[124]] else []) ++ [R.itemB x] ++ R.itemsW (l.drop (k + 1)) (c - (k + 1 : Nat))) = o) := HM
      clear HM hw hx hcell hcs c0 c1 c2 c3 r2 hnm
      obtain ⟨ib, HIB⟩ : ∃ ib, Hid (R.itemB x = ib) := ⟨_, rfl⟩
      rw [HIB.out] at HM1
      obtain ⟨rest, HRe⟩ : ∃ r, Hid (R.itemsW (l.drop (k + 1)) (c - (k + 1 : Nat)) = r) := ⟨_, rfl⟩
      rw [HRe.out] at HM1
      have ho := item_ok hix
      have hB2 : Hid (x.kind = 1 → (⟨(T.quo x.rune).toArray⟩ : ByteArray) = ⟨ib.toArray⟩) := fun h => by rw [← HIB.out]; simp [R.itemB, h]
      have hB3 : Hid (x.kind = 2 → (⟨(if S.wrongE x.set = 0 then T.prt x.set else []).toArray⟩ : ByteArray) = ⟨ib.toArray⟩) := fun h => by rw [← HIB.out]; simp [R.itemB, h, R.setB]
      have hB4 : Hid (x.kind = 3 → (⟨#[36]⟩ : ByteArray) ++ x.name = ⟨ib.toArray⟩) := fun h => by rw [← HIB.out, dollar]; simp [R.itemB, h]
      have HP : Hid (∀ W, Below w.heap.size w W → Calls Tryd.prog 13 #[.slice so x.set.length sc] W fun e w' => e = .returned (T.prE x.set) ∧ Below W.heap.size W w') := fun W hW => refprint_any W _ x.set (HC.out W hW).2 hf
      obtain ⟨xk, xr, xs, xn⟩ := x
      simp only at HC ho hB2 hB3 hB4 HP
      clear hix hf HIB
      rcases ho with ⟨rfl, hr⟩ | ⟨rfl, hsw⟩ | ⟨rfl, hn⟩
      · have hb : 0 ≤ xr ∧ xr ≤ 1114111 := by unfold M.right at hr; have := of_decide_eq_true hr; omega
        have hq := hB2.out rfl
        have HQ : Hid (∀ W, Calls Tryd.prog 22 #[.int .i32 xr] W fun e w' => e = .returned (.string ⟨ib.toArray⟩) ∧ Below W.heap.size W w') := fun W => by have h := refquote_any xr hb.1 hb.2 W; rw [hq] at h; exact h
        clear hq
        by_cases hkc : (k : Int) = c
        · subst hkc
          go_wp2_with (at_builtin; refine R.list_one rfl _ _ rfl w.heap.size _ ms rfl (HOw.out.alloc _) wr.heap.size rfl [124] (R.new_cell _ _ _) (by have := HMl.out; omega) (by simp; omega) ?_; intro v1 w1 own1 gr1; have HO1 : Hid (R.Own w.heap.size w1 v1 (ms ++ [[124]])) := own1; have HB1 : Hid (Below w.heap.size w w1) := HOw.out.after HB.out gr1; have hs1 := HB1.out.size; obtain ⟨⟨d0, d1, d2, d3⟩, _⟩ := HC.out w1 HB1.out; clear own1 gr1)
          refine (HQ.out _).mono ?_
          rintro e w3 ⟨rfl, b3⟩
          have HO3 : Hid (R.Own w.heap.size w3 _ (ms ++ [[124]])) := HO1.out.below b3
          have HB3 : Hid (Below w.heap.size w w3) := HB1.out.trans (b3.mono HB1.out.size)
          have hs3 := HB3.out.size
          clear b3
          go_wp2_with (at_builtin; refine R.list_one rfl _ _ rfl w.heap.size _ (ms ++ [[124]]) rfl (HO3.out.alloc _) w3.heap.size rfl ib (R.new_cell _ _ _) (by have := HMl.out; simp; omega) (by simp; omega) ?_; intro v5 w5 own5 gr5; have HO5 : Hid (R.Own w.heap.size w5 v5 ((ms ++ [[124]]) ++ [ib])) := own5; have HB5 : Hid (Below w.heap.size w w5) := HO3.out.after HB3.out gr5; clear own5 gr5)
          go_roundw
          case rel => exact ⟨k + 1, (ms ++ [[124]]) ++ [ib], by go_num, by omega, HO5, HB5, by show _ = _; rw [HRe.out, ← HM1.out]; simp⟩
          case measure => simp [intOf]; omega
        · have hkc' : ((k : Int) == c) = false := by simp [hkc]
          obtain ⟨⟨d0, d1, d2, d3⟩, _⟩ := HC.out wr HB.out
          go_wp2_with fail
          refine (HQ.out _).mono ?_
          rintro e w3 ⟨rfl, b3⟩
          have HO3 : Hid (R.Own w.heap.size w3 _ (ms)) := HOw.out.below b3
          have HB3 : Hid (Below w.heap.size w w3) := HB.out.trans (b3.mono HB.out.size)
          have hs3 := HB3.out.size
          clear b3
          go_wp2_with (at_builtin; refine R.list_one rfl _ _ rfl w.heap.size _ (ms) rfl (HO3.out.alloc _) w3.heap.size rfl ib (R.new_cell _ _ _) (by have := HMl.out; simp; omega) (by simp; omega) ?_; intro v5 w5 own5 gr5; have HO5 : Hid (R.Own w.heap.size w5 v5 ((ms) ++ [ib])) := own5; have HB5 : Hid (Below w.heap.size w w5) := HO3.out.after HB3.out gr5; clear own5 gr5)
          go_roundw
          case rel => exact ⟨k + 1, (ms) ++ [ib], by go_num, by omega, HO5, HB5, by show _ = _; rw [HRe.out, ← HM1.out]; simp [hkc]⟩
          case measure => simp [intOf]; omega
      · have hq := hB3.out rfl
        have HQ : Hid (∀ W, Below w.heap.size w W → Calls Tryd.prog 13 #[.slice so xs.length sc] W fun e w' => e = .returned (.tuple #[.string ⟨ib.toArray⟩, .int .i64 (S.wrongE xs)]) ∧ Below W.heap.size W w') := fun W hW => by have h := HP.out W hW; unfold T.prE at h; rw [hq] at h; exact h
        clear hq
        generalize S.wrongE xs = zz at HQ
        by_cases hkc : (k : Int) = c
        · subst hkc
          go_wp2_with (at_builtin; refine R.list_one rfl _ _ rfl w.heap.size _ ms rfl (HOw.out.alloc _) wr.heap.size rfl [124] (R.new_cell _ _ _) (by have := HMl.out; omega) (by simp; omega) ?_; intro v1 w1 own1 gr1; have HO1 : Hid (R.Own w.heap.size w1 v1 (ms ++ [[124]])) := own1; have HB1 : Hid (Below w.heap.size w w1) := HOw.out.after HB.out gr1; have hs1 := HB1.out.size; obtain ⟨⟨d0, d1, d2, d3⟩, _⟩ := HC.out w1 HB1.out; clear own1 gr1)
          refine (HQ.out _ HB1.out).mono ?_
          rintro e w3 ⟨rfl, b3⟩
          have HO3 : Hid (R.Own w.heap.size w3 _ (ms ++ [[124]])) := HO1.out.below b3
          have HB3 : Hid (Below w.heap.size w w3) := HB1.out.trans (b3.mono HB1.out.size)
          have hs3 := HB3.out.size
          clear b3
          go_wp2_with (at_builtin; refine R.list_one rfl _ _ rfl w.heap.size _ (ms ++ [[124]]) rfl (HO3.out.alloc _) w3.heap.size rfl ib (R.new_cell _ _ _) (by have := HMl.out; simp; omega) (by simp; omega) ?_; intro v5 w5 own5 gr5; have HO5 : Hid (R.Own w.heap.size w5 v5 ((ms ++ [[124]]) ++ [ib])) := own5; have HB5 : Hid (Below w.heap.size w w5) := HO3.out.after HB3.out gr5; clear own5 gr5)
          go_roundw
          case rel => exact ⟨k + 1, (ms ++ [[124]]) ++ [ib], by go_num, by omega, HO5, HB5, by show _ = _; rw [HRe.out, ← HM1.out]; simp⟩
          case measure => simp [intOf]; omega
        · have hkc' : ((k : Int) == c) = false := by simp [hkc]
          obtain ⟨⟨d0, d1, d2, d3⟩, _⟩ := HC.out wr HB.out
          go_wp2_with fail
          refine (HQ.out _ HB.out).mono ?_
          rintro e w3 ⟨rfl, b3⟩
          have HO3 : Hid (R.Own w.heap.size w3 _ (ms)) := HOw.out.below b3
          have HB3 : Hid (Below w.heap.size w w3) := HB.out.trans (b3.mono HB.out.size)
          have hs3 := HB3.out.size
          clear b3
          go_wp2_with (at_builtin; refine R.list_one rfl _ _ rfl w.heap.size _ (ms) rfl (HO3.out.alloc _) w3.heap.size rfl ib (R.new_cell _ _ _) (by have := HMl.out; simp; omega) (by simp; omega) ?_; intro v5 w5 own5 gr5; have HO5 : Hid (R.Own w.heap.size w5 v5 ((ms) ++ [ib])) := own5; have HB5 : Hid (Below w.heap.size w w5) := HO3.out.after HB3.out gr5; clear own5 gr5)
          go_roundw
          case rel => exact ⟨k + 1, (ms) ++ [ib], by go_num, by omega, HO5, HB5, by show _ = _; rw [HRe.out, ← HM1.out]; simp [hkc]⟩
          case measure => simp [intOf]; omega
      · have hn2 := named_small hn
        have hq := hB4.out rfl
        have g1 : ¬ 9223372036854775807 < 1 + xn.size := by omega
        by_cases hkc : (k : Int) = c
        · subst hkc
          go_wp2_with (first | (at_builtin; refine R.list_one rfl _ _ rfl w.heap.size _ ms rfl (HOw.out.alloc _) wr.heap.size rfl [124] (R.new_cell _ _ _) (by have := HMl.out; omega) (by simp; omega) ?_; intro v1 w1 own1 gr1; have HO1 : Hid (R.Own w.heap.size w1 v1 (ms ++ [[124]])) := own1; have HB1 : Hid (Below w.heap.size w w1) := HOw.out.after HB.out gr1; have hs1 := HB1.out.size; obtain ⟨⟨d0, d1, d2, d3⟩, _⟩ := HC.out w1 HB1.out; clear own1 gr1) | (at_builtin; refine R.list_one rfl _ _ rfl w.heap.size _ (ms ++ [[124]]) rfl (HO1.out.alloc _) w1.heap.size rfl ib (R.new_cell _ _ _) (by have := HMl.out; simp; omega) (by simp; omega) ?_; intro v5 w5 own5 gr5; have HO5 : Hid (R.Own w.heap.size w5 v5 ((ms ++ [[124]]) ++ [ib])) := own5; have HB5 : Hid (Below w.heap.size w w5) := HO1.out.after HB1.out gr5; clear own5 gr5))
          go_roundw
          case rel => exact ⟨k + 1, (ms ++ [[124]]) ++ [ib], by go_num, by omega, HO5, HB5, by show _ = _; rw [HRe.out, ← HM1.out]; simp⟩
          case measure => simp [intOf]; omega
        · have hkc' : ((k : Int) == c) = false := by simp [hkc]
          obtain ⟨⟨d0, d1, d2, d3⟩, _⟩ := HC.out wr HB.out
          go_wp2_with (at_builtin; refine R.list_one rfl _ _ rfl w.heap.size _ (ms) rfl (HOw.out.alloc _) wr.heap.size rfl ib (R.new_cell _ _ _) (by have := HMl.out; simp; omega) (by simp; omega) ?_; intro v5 w5 own5 gr5; have HO5 : Hid (R.Own w.heap.size w5 v5 ((ms) ++ [ib])) := own5; have HB5 : Hid (Below w.heap.size w w5) := HOw.out.after HB.out gr5; clear own5 gr5)
          go_roundw
          case rel => exact ⟨k + 1, (ms) ++ [ib], by go_num, by omega, HO5, HB5, by show _ = _; rw [HRe.out, ← HM1.out]; simp [hkc]⟩
          case measure => simp [intOf]; omega
    · have hke : k = l.length := by omega
      subst hke
      have hm := HM.out
      rw [List.drop_eq_nil_of_le (Nat.le_refl _), R.itemsW] at hm
      by_cases hkc : (l.length : Int) = c
      · subst hkc
        rw [if_pos (by omega)] at hm
        have HM2 : Hid (ms ++ [[124]] = o) := hm
        clear hm
        go_wp2_with (at_builtin; refine R.list_one rfl _ _ rfl w.heap.size _ ms rfl (HOw.out.alloc _) wr.heap.size rfl [124] (R.new_cell _ _ _) (by have := HMl.out; omega) (by simp; omega) ?_; intro v1 w1 own1 gr1; have HO1 : Hid (R.Own w.heap.size w1 v1 (ms ++ [[124]])) := own1; have HB1 : Hid (Below w.heap.size w w1) := HOw.out.after HB.out gr1; have hs1 := HB1.out.size; clear own1 gr1)
        go_ret
        exact ⟨_, rfl, by rw [← HM2.out]; exact HO1.out, HB1.out⟩
      · have hkc' : ((l.length : Int) == c) = false := by simp [hkc]
        rw [if_neg (by omega), List.append_nil] at hm
        have HM2 : Hid (ms = o) := hm
        clear hm
        go_wp2
        go_ret
        exact ⟨_, rfl, by rw [← HM2.out]; exact HOw.out, HB.out⟩

end Go.Proofs.YtafkfnkcabahnaaDoor
