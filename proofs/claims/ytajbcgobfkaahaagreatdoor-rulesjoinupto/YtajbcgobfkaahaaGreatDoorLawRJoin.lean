/-
  scriptlaw5.RulesJoin answers true, for every two texts (of at most 2^38 bytes each).
-/
import Derived.Test.YtajbcgobfkaahaaGreatDoorRJoin
import Derived.Test.YtajbcgobfkaahaaGreatDoorTClass4
namespace Go.Proofs.YtajbcgobfkaahaaGreatDoor
open Go.RowKit
set_option maxRecDepth 20000
set_option linter.unusedSimpArgs false
set_option linter.unusedVariables false

/-- what Read answers, without what was read -/
theorem readE_any {o : T.Out (List R.Part)} {w w' : World} {e : Ending} (h : R.readE o w e w') : ∃ ao n cap er q, e = .returned (.tuple #[.slice ao n cap, .agg #[.int .i64 er, .int .i64 q]]) ∧ Below w.heap.size w w' := by
  cases o with
  | ok t q =>
    obtain ⟨v, rfl, hr, _, hb⟩ := h
    obtain ⟨ao, cap, rfl⟩ := R.Row.slice hr
    exact ⟨ao, _, cap, 0, 0, rfl, hb⟩
  | bad er q => exact ⟨none, 0, 0, er, q, h.1, h.2⟩

set_option maxHeartbeats 4000000 in
theorem rulesJoin_any (s t : ByteArray) (hs : s.size ≤ 274877906944) (ht : t.size ≤ 274877906944) (w : World) :
    Calls Tryz.prog 4 #[.string s, .string t] w fun e w' => e = .returned (.bool true) ∧ Below w.heap.size w w' := by
  have hst : (s ++ { data := #[10] } ++ t).size ≤ 1099511627776 := by
    have h1 : ({ data := #[10] } : ByteArray).size = 1 := rfl
    simp only [ByteArray.size_append, h1]; omega
  have HL : Hid (∀ W, Calls Tryz.prog 6 #[] W fun e w' => e = .returned (.bool true) ∧ Below W.heap.size W w') := fun W => ralive_any class_ok W
  have HS : Hid (∀ W, Calls Tryz.prog 9 #[.string s] W (R.readE (R.read (M.rn s)) W)) := fun W => rread_any class_ok s (by omega) W
  have HT : Hid (∀ W, Calls Tryz.prog 9 #[.string t] W (R.readE (R.read (M.rn t)) W)) := fun W => rread_any class_ok t (by omega) W
  have HU : Hid (∀ W, Calls Tryz.prog 9 #[.string (s ++ { data := #[10] } ++ t)] W (R.readE (R.read (M.rn (s ++ { data := #[10] } ++ t))) W)) := fun W => rread_any class_ok _ hst W
  have HH : Hid (∀ W, Calls Tryz.prog 8 #[.string (s ++ { data := #[10] } ++ t)] W fun e w' => e = .returned (.bool (decide ((s ++ { data := #[10] } ++ t).size ≤ 16000))) ∧ Below W.heap.size W w') := fun W => short_any _ hst W
  have HJ : Hid (∀ a b q r, R.read (M.rn s) = .ok a q → R.read (M.rn t) = .ok b r → (s ++ { data := #[10] } ++ t).size ≤ 16000 → a.length + b.length ≤ 200 → ∃ u, R.read (M.rn (s ++ { data := #[10] } ++ t)) = .ok (a ++ b) u) := fun a b q r h1 h2 h3 h4 => join_read h1 h2 h3 h4
  have h10 : ({ data := #[10] } : ByteArray).size = 1 := rfl
  go_enter Tryz.func4, Tryz.ntmps4
  go_wp2_with fail
  refine (HL.out _).mono ?_
  rintro e w1 ⟨rfl, b1⟩
  have HB1 : Hid (Below w.heap.size w w1) := b1
  have hs1 := b1.size
  clear b1
  go_wp2_with fail
  refine (HS.out _).mono ?_
  cases hrs : R.read (M.rn s) with
  | bad er q =>
    have her := R.read_er hrs
    rintro e w2 ⟨rfl, b2⟩
    have HB2 : Hid (∀ o, Below w.heap.size w (w2.alloc o)) := fun o => (HB1.out.trans (b2.mono hs1)).alloc (by have := b2.size; omega) o
    have hs2 := b2.size
    clear b2
    go_wp2_with fail
    refine (HT.out _).mono ?_
    intro e w3 h3
    obtain ⟨ao, n, cap, er2, q2, rfl, b3⟩ := readE_any h3
    obtain ⟨hb3, B3, hl3⟩ := R.box_kept b3
    have HB3 : Hid (∀ o, Below w.heap.size w (w3.alloc o)) := fun o => ((HB2.out _).trans (b3.mono (by simp; omega))).alloc (by have := b3.size; simp at this; omega) o
    obtain ⟨p0, p1, _, _⟩ := R.box2 hb3
    clear b3 hb3 B3 h3
    go_wp2
    go_ret
    exact ⟨rfl, HB3.out _⟩
  | ok a q =>
    rintro e w2 ⟨va, rfl, ra, hla, b2⟩
    have HB2 : Hid (∀ o, Below w.heap.size w (w2.alloc o)) := fun o => (HB1.out.trans (b2.mono hs1)).alloc (by have := b2.size; omega) o
    have hs2 := b2.size
    have HA2 : Hid (R.RowP w.heap.size w2 va a) := R.Row.down ra hs1
    clear b2 ra
    go_wp2_with fail
    refine (HT.out _).mono ?_
    cases hrt : R.read (M.rn t) with
    | bad er2 q2 =>
      have her := R.read_er hrt
      rintro e w3 ⟨rfl, b3⟩
      obtain ⟨hb3, B3, hl3⟩ := R.box_kept b3
      have HB3 : Hid (∀ o, Below w.heap.size w (w3.alloc o)) := fun o => ((HB2.out _).trans (b3.mono (by simp; omega))).alloc (by have := b3.size; simp at this; omega) o
      obtain ⟨p0, p1, _, _⟩ := R.box2 hb3
      clear b3 hb3 B3
      go_wp2
      go_ret
      exact ⟨rfl, HB3.out _⟩
    | ok b q2 =>
      rintro e w3 ⟨vb, rfl, rb, hlb, b3⟩
      obtain ⟨hb3, B3, hl3⟩ := R.box_kept b3
      have hs3 : w2.heap.size + 1 ≤ w3.heap.size := by have := b3.size; simp at this; omega
      have HB3 : Hid (∀ o, Below w.heap.size w (w3.alloc o)) := fun o => ((HB2.out _).trans (b3.mono (by simp; omega))).alloc (by omega) o
      have HA3 : Hid (R.RowP w.heap.size w3 va a) := R.Row.below HA2.out B3
      have HBb : Hid (R.RowP w.heap.size w3 vb b) := R.Row.down rb (by simp; omega)
      have HX3 : Hid (w3.heap[w2.heap.size]? = some (.cells #[.int .i64 0, .int .i64 0] 26)) := hb3
      obtain ⟨p0, p1, _, _⟩ := R.box2 hb3
      obtain ⟨ao, ca, hva⟩ := R.Row.slice HA3.out
      obtain ⟨bo, cb, hvb⟩ := R.Row.slice HBb.out
      subst hva hvb
      have HSm : Hid (∀ x ∈ a ++ b, R.Small x) := fun x hx => by
        rcases List.mem_append.1 hx with h | h
        · exact small_of (R.read_right hrs x h).1 (R.read_right hrs x h).2
        · exact small_of (R.read_right hrt x h).1 (R.read_right hrt x h).2
      have HJ2 : Hid ((s ++ { data := #[10] } ++ t).size ≤ 16000 → a.length + b.length ≤ 200 → ∃ u, R.read (M.rn (s ++ { data := #[10] } ++ t)) = .ok (a ++ b) u) := fun h1 h2 => HJ.out a b q q2 hrs hrt h1 h2
      clear b3 hb3 B3 rb HA2 HJ hrs hrt
      go_wp2_with fail
      refine (HH.out _).mono ?_
      rintro e w4 ⟨rfl, b4⟩
      obtain ⟨hb4, B4, hl4⟩ := R.box_kept b4
      have HB4 : Hid (Below w.heap.size w w4) := (HB3.out _).trans (b4.mono (by simp; omega))
      have HA4 : Hid (R.RowP w.heap.size w4 (.slice ao a.length ca) a) := R.Row.below HA3.out B4
      have HBb4 : Hid (R.RowP w.heap.size w4 (.slice bo b.length cb) b) := R.Row.below HBb.out B4
      have hs4 := HB4.out.size
      clear b4 hb4 B4 HA3 HBb
      by_cases h16 : (s ++ { data := #[10] } ++ t).size ≤ 16000
      · rw [decide_eq_true h16]
        by_cases h200 : a.length + b.length ≤ 200
        · obtain ⟨u, hu⟩ := HJ2.out h16 h200
          rw [hu] at HU
          clear HJ2 HH h16
          go_wp2_with fail
          refine (HU.out _).mono ?_
          rintro e w5 ⟨vc, rfl, rc, hlc, b5⟩
          have HB5 : Hid (∀ o o', Below w.heap.size w ((w5.alloc o).alloc o')) := fun o o' => ((HB4.out.trans (b5.mono hs4)).alloc (by have := b5.size; omega) o).alloc (by have := b5.size; simp; omega) o'
          have HA5 : Hid (R.RowP w.heap.size w5 (.slice ao a.length ca) a) := R.Row.below HA4.out b5
          have HBb5 : Hid (R.RowP w.heap.size w5 (.slice bo b.length cb) b) := R.Row.below HBb4.out b5
          have HC5 : Hid (R.RowP w.heap.size w5 vc (a ++ b)) := R.Row.down rc hs4
          obtain ⟨co, cc, hvc⟩ := R.Row.slice rc
          rw [List.length_append] at hvc
          subst hvc
          have hs5 := b5.size
          clear b5 rc HA4 HBb4
          have HE : Hid (∀ o, R.RowP w.heap.size ((w5.alloc o).alloc (.cells #[] 49)) (.slice (some ⟨(w5.alloc o).heap.size, 0, none⟩) 0 0) []) := fun o => R.Row.made0 (by simp; omega)
          obtain ⟨bx, hbx⟩ : ∃ bx, bx = Obj.cells #[.int .i64 0, .int .i64 0] 26 := ⟨_, rfl⟩
          have hsz2 : ((w5.alloc (.cells #[.int .i64 0, .int .i64 0] 26)).alloc (.cells #[] 49)).heap.size = w5.heap.size + 2 := by simp
          have HE1 : Hid (R.RowP w.heap.size ((w5.alloc (.cells #[.int .i64 0, .int .i64 0] 26)).alloc (.cells #[] 49)) (.slice (some ⟨w5.heap.size + 1, 0, none⟩) 0 0) []) := by
            have h := HE.out (.cells #[.int .i64 0, .int .i64 0] 26)
            simp only [show (w5.alloc (.cells #[.int .i64 0, .int .i64 0] 26)).heap.size = w5.heap.size + 1 by simp] at h
            exact h
          go_wp2_with first
            | (at_builtin; refine R.list_old R.elemP _ _ rfl _ _ [] a rfl rfl HE1.out HA5.out (by rw [hsz2]; omega) (R.kept2 w5 _ _) (fun g hg => by have h2 : w5.heap.size + 1 = g := Option.some.inj hg; omega) (by simp; omega) (by rw [hsz2]; omega) (by rfl) ?_; intro v6 w6 r6 g6 n6; have HR6 : Hid (R.RowP w.heap.size w6 v6 a) := r6; have HG6 : Hid (Below w.heap.size w w6) := Below.grown (HB5.out _ _) g6 (by rw [hsz2]; omega) (fun k hk => by have h2 : w5.heap.size + 1 = k := Option.some.inj hk; omega); have HO6 : Hid (∀ b, b < w5.heap.size → w6.heap[b]? = w5.heap[b]?) := fun b hb => (g6.block b (by rw [hsz2]; omega) (by intro h; have h2 : b = w5.heap.size + 1 := Option.some.inj h; omega)).trans (R.kept2 w5 _ _ b hb); have hs6 : w5.heap.size ≤ w6.heap.size := (by have := g6.size; rw [hsz2] at this; omega); have HN6 : Hid (∀ g, v6.ownBlock = some g → w5.heap.size ≤ g) := (fun g hg => (n6 g hg).elim (fun h => by have h2 : w5.heap.size + 1 = g := Option.some.inj h; omega) (fun h => by rw [hsz2] at h; omega)); clear r6 g6 n6)
            | (at_builtin; refine R.list_old R.elemP _ _ rfl _ _ a b rfl rfl HR6.out HBb5.out hs6 HO6.out HN6.out (by omega) (by omega) (by rfl) ?_; intro v7 w7 r7 g7 n7; have HR7 : Hid (R.RowP w.heap.size w7 v7 (a ++ b)) := r7; have HB7 : Hid (Below w.heap.size w w7) := Below.grown HG6.out g7 (by omega) (fun k hk => by have := HN6.out k hk; omega); have HC7 : Hid (R.RowP w.heap.size w7 (.slice co (a.length + b.length) cc) (a ++ b)) := R.Row.keep HC5.out (by have := g7.size; omega) (fun b _ hb => (g7.block b (by omega) (fun h => by have := HN6.out b h.symm; omega)).trans (HO6.out b hb)); clear r7 g7 n7)
          refine (Same_eq w7 _ _ (a ++ b) (R.RowP.pts HC7.out).here (R.RowP.pts HR7.out).here (by simp; omega) HSm.out).mono ?_
          rintro e w8 ⟨rfl, b8⟩
          have HB8 : Hid (Below w.heap.size w w8) := HB7.out.trans (b8.mono HB7.out.size)
          clear b8
          go_wp2
          go_ret
          exact ⟨rfl, HB8.out⟩
        · go_wp2
          go_ret
          exact ⟨rfl, HB4.out⟩
      · rw [decide_eq_false h16]
        go_wp2
        go_ret
        exact ⟨rfl, HB4.out⟩

end Go.Proofs.YtajbcgobfkaahaaGreatDoor
