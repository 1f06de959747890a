/-
  Sets in texts, at the level of bytes; what is read of texts that are put together of what Print writes.
-/
import Derived.Test.YtchkcjaahjhbcabGreatDoorTBack
import Derived.Laws.Strings
import Derived.Test.YtchkcjaahjhbcabGreatDoorRows
import Derived.Test.YtchkcjaahjhbcabGreatDoorSLib
import Derived.Deep.QuietTactic
import Derived.BigQuiet
namespace Go.Proofs.YtchkcjaahjhbcabGreatDoor.T
open S (Sp)

/-- the bytes of runes -/
def bytesR (l : List Int) : List UInt8 := l.flatMap M.enc
theorem bytesR_append (l m : List Int) : bytesR (l ++ m) = bytesR l ++ bytesR m := by simp [bytesR]
theorem bytesR_cons (r : Int) (l : List Int) : bytesR (r :: l) = M.enc r ++ bytesR l := rfl
def rightL (l : List Int) : Prop := ∀ r ∈ l, M.right r = true

theorem right_nat {r : Int} (h : M.right r = true) : ((r.toNat : Nat) : Int) = r := by
  unfold M.right at h
  have := of_decide_eq_true h
  omega
theorem rn_bytes {l : List Int} (h : rightL l) : M.rn ⟨(bytesR l).toArray⟩ = l := by
  have e : bytesR l = (l.map Int.toNat).flatMap fun r : Nat => M.enc (r : Int) := by
    unfold bytesR
    induction l with
    | nil => rfl
    | cons x l ih =>
      simp only [List.flatMap_cons, List.map_cons]
      rw [ih fun r hr => h r (List.mem_cons_of_mem _ hr), right_nat (h x List.mem_cons_self)]
  have hr : ∀ r ∈ l.map Int.toNat, M.right ((r : Nat) : Int) = true := fun r hr => by
    obtain ⟨x, hx, rfl⟩ := List.mem_map.1 hr
    rw [right_nat (h x hx)]; exact h x hx
  have h1 := (M.ru_enc _ hr).1
  rw [M.rn_ru]
  show (M.ru (bytesR l)).map (fun x => ((x.1 : Nat) : Int)) = l
  rw [e]
  have h2 := congrArg (List.map fun r : Nat => (r : Int)) h1
  rw [List.map_map] at h2
  rw [show ((fun r : Nat => (r : Int)) ∘ fun x : Nat × Nat => x.1) = (fun x : Nat × Nat => ((x.1 : Nat) : Int)) from rfl] at h2
  rw [h2, List.map_map]
  clear h1 h2 hr e
  induction l with
  | nil => rfl
  | cons x l ih =>
    rw [List.map_cons, ih fun r hr => h r (List.mem_cons_of_mem _ hr)]
    congr 1
    exact right_nat (h x List.mem_cons_self)

theorem enc_ascii {b : UInt8} (h : b.toNat < 128) : M.enc (b.toNat : Int) = [b] := by
  rw [M.enc_eq b.toNat (by unfold M.right; simp; omega), if_pos h]
  simp
theorem right_ascii {r : Int} (h0 : 0 ≤ r) (h : r < 128) : M.right r = true := by unfold M.right; simp; omega

theorem dig_small {d : Nat} (h : d < 16) : (dig d).toNat < 128 := by
  have : ∀ d : Fin 16, (dig d.1).toNat < 128 := by decide
  exact this ⟨d, h⟩
theorem hexL_small' (n : Nat) : ∀ b ∈ hexL n, b.toNat < 128 := by
  induction n using Nat.strongRecOn with
  | ind n ih =>
    intro b hb
    by_cases h : n < 16
    · rw [hexL_small h, List.mem_singleton] at hb; subst hb; exact dig_small h
    · rw [hexL_big h, List.mem_append, List.mem_singleton] at hb
      rcases hb with hb | hb
      · exact ih _ (by omega) b hb
      · subst hb; exact dig_small (by omega)
theorem bytesR_hex (n : Nat) : bytesR (hexR n) = hexL n := by
  unfold hexR
  have h := hexL_small' n
  generalize hexL n = l at h
  induction l with
  | nil => rfl
  | cons b l ih =>
    rw [List.map_cons, bytesR_cons, enc_ascii (h b List.mem_cons_self), ih fun c hc => h c (List.mem_cons_of_mem _ hc)]; rfl
theorem right_hex (n : Nat) : rightL (hexR n) := fun r hr => by
  unfold hexR at hr
  obtain ⟨b, hb, rfl⟩ := List.mem_map.1 hr
  exact right_ascii (by omega) (by have := hexL_small' n b hb; omega)

theorem rightL_app {l m : List Int} (h : rightL l) (h' : rightL m) : rightL (l ++ m) := fun r hr => by
  rcases List.mem_append.1 hr with hr | hr
  · exact h r hr
  · exact h' r hr
theorem plain_right' {r : Int} (h : plain r = true) : M.right r = true := by
  unfold plain alnum at h
  simp only [Bool.or_eq_true, Bool.and_eq_true, decide_eq_true_eq] at h
  rcases h with h | h
  · exact right_ascii (by omega) (by omega)
  · exact h.1

theorem quo_bytes (r : Int) : bytesR (quoR r) = quo r ∧ rightL (quoR r) := by
  unfold quoR quo
  by_cases h : plain r = true
  · rw [if_pos h, if_pos h]
    exact ⟨by simp [bytesR], fun x hx => by rw [List.mem_singleton] at hx; subst hx; exact plain_right' h⟩
  · rw [if_neg h, if_neg h, bytesR_append, bytesR_append, bytesR_hex]
    refine ⟨?_, rightL_app (rightL_app (by unfold rightL; decide) (right_hex _)) (by unfold rightL; decide)⟩
    congr 1
theorem one_bytes (x : Sp) : bytesR (oneR x) = one x ∧ rightL (oneR x) := by
  unfold oneR one
  rw [bytesR_append, (quo_bytes x.1).1]
  by_cases h : x.1 < x.2
  · rw [if_pos h, if_pos h, bytesR_append, (quo_bytes x.2).1]
    exact ⟨by congr 1, rightL_app (quo_bytes x.1).2 (rightL_app (by unfold rightL; decide) (quo_bytes x.2).2)⟩
  · rw [if_neg h, if_neg h]
    exact ⟨rfl, rightL_app (quo_bytes x.1).2 (fun r hr => by cases hr)⟩
theorem inner_bytes (s : List Sp) : bytesR (innerR s) = inner s ∧ rightL (innerR s) := by
  induction s with
  | nil => exact ⟨rfl, fun r hr => by cases hr⟩
  | cons x s ih =>
    have e1 : innerR (x :: s) = oneR x ++ innerR s := rfl
    have e2 : inner (x :: s) = one x ++ inner s := rfl
    rw [e1, e2, bytesR_append, (one_bytes x).1, ih.1]
    exact ⟨rfl, rightL_app (one_bytes x).2 ih.2⟩
/-- what Print writes, in runes -/
theorem prt_bytes (s : List Sp) : bytesR (prtR s) = prt s ∧ rightL (prtR s) := by
  unfold prtR prt
  rw [bytesR_append, bytesR_append, (inner_bytes s).1]
  exact ⟨by congr 1, rightL_app (rightL_app (by unfold rightL; decide) (inner_bytes s).2) (by unfold rightL; decide)⟩
theorem rn_prt (s : List Sp) : M.rn ⟨(prt s).toArray⟩ = prtR s := by
  rw [← (prt_bytes s).1, rn_bytes (prt_bytes s).2]

/-! what is read of texts put together -/

theorem made_nf {P : Int → Bool} (h : (S.nf P).length ≤ 200) (p : Nat) : made P p = .ok (S.nf P) p := by unfold made; rw [if_neg (by omega)]

theorem prtR_head (s : List Sp) : ∃ a t, prtR s = 91 :: a :: t ∧ a ≠ 58 ∧ a ≠ 94 := by
  obtain ⟨b, u, hb, hfb⟩ := innerR_head (s := s) (r := [])
  have hn := head_not hfb
  exact ⟨b, u, by show 91 :: (innerR s ++ [93]) = _; rw [hb], hn.2.2.1, hn.2.1⟩

theorem part_set {l rest : List Int} {n p : Nat} {acc s : List Sp} (h : l.drop p = prtR s ++ rest) (hn : S.Nf 0 s) (hs : s.length ≤ 200) (hlen : s.length ≤ l.length) :
    part (setN (n + 1) l) l acc p = made (S.orP acc s) (p + (prtR s).length) := by
  obtain ⟨a, t, ha, h58, _⟩ := prtR_head s
  have h' : l.drop p = 91 :: (a :: (t ++ rest)) := by rw [h, ha]; rfl
  have h1 := sits_head h'
  have h2 := sits_head (sits_tail h')
  unfold part
  rw [h1, if_neg (by decide), if_neg (by decide), h2, if_neg (fun e => h58 e.2), if_pos rfl, set_prt h hn hs hlen]
theorem part_and {l rest : List Int} {n p : Nat} {acc s : List Sp} (h : l.drop p = 38 :: (prtR s ++ rest)) (hn : S.Nf 0 s) (hs : s.length ≤ 200) (hlen : s.length ≤ l.length) :
    part (setN (n + 1) l) l acc p = made (S.andP acc s) (p + 1 + (prtR s).length) := by
  have h1 := sits_head h
  have t := sits_tail h
  obtain ⟨a, u, ha, _⟩ := prtR_head s
  have h91 := sits_head (a := 91) (r := a :: (u ++ rest)) (by rw [t, ha]; rfl)
  have hlt := sits_lt h
  unfold part
  rw [h1, if_pos rfl, skipW_here (by omega) (by decide) (by rw [h91]; decide), set_prt t hn hs hlen]
theorem part_min {l rest bs : List Int} {n p : Nat} {acc s : List Sp} (h : l.drop p = 45 :: (bs ++ (prtR s ++ rest))) (hbs : ∀ x ∈ bs, blank x = true) (hn : S.Nf 0 s) (hs : s.length ≤ 200) (hlen : s.length ≤ l.length) :
    part (setN (n + 1) l) l acc p = made (S.minP acc s) (p + 1 + bs.length + (prtR s).length) := by
  have h1 := sits_head h
  have t := sits_tail h
  have t2 := sits_next t
  obtain ⟨a, u, ha, _⟩ := prtR_head s
  have h91 := sits_head (a := 91) (r := a :: (u ++ rest)) (by rw [t2, ha]; rfl)
  have hlt := sits_lt h
  unfold part
  rw [h1, if_neg (by decide), if_pos rfl, skipW_sits t (by omega) hbs (by decide) (by rw [h91]; decide), set_prt t2 hn hs hlen]

theorem nf_or_nil {a : List Sp} (h : S.Nf 0 a) : S.nf (S.orP [] a) = a := S.nf_eq (is_or h fun r => by rw [S.memb_nil, Bool.false_or])

/-- one step of the loop -/
theorem loop_part {l : List Int} {sub : Nat → Out (List Sp)} {f p q r : Nat} {acc t : List Sp} (h93 : see l p ≠ 93) (hp : part sub l acc p = .ok t q) (hr : skipW blank l q = r) : loop (f + 1) sub l acc p = loop f sub l t r := by
  rw [loop, if_neg h93, hp]; simp only; rw [hr]
theorem loop_end {l : List Int} {sub : Nat → Out (List Sp)} {f p : Nat} {acc : List Sp} (h : see l p = 93) : loop (f + 1) sub l acc p = .ok acc (p + 1) := by
  rw [loop, if_pos h]

theorem nb91 : blank 91 = false := by decide
theorem nb93 : blank 93 = false := by decide
theorem nb38 : blank 38 = false := by decide
theorem nb45 : blank 45 = false := by decide

/-- a whole text, a set alone in it -/
theorem read_set {l : List Int} {s : List Sp} {q : Nat} (hl : l.length ≤ 4000) (h91 : see l 0 = 91) (h : setN 20 l 0 = .ok s q) (hq : q = l.length) : read l = .ok s q := by
  unfold read
  rw [if_neg (by omega)]
  unfold whole
  rw [skipW_here (by omega) (by decide) (by rw [h91]; decide), h]
  simp only
  subst hq
  rw [skipW_here (Nat.le_refl _) (by decide) (by rw [see_ge (Nat.le_refl _)]; decide), see_ge (Nat.le_refl _), if_pos rfl]

theorem lens {a b : List Sp} (ha : S.Nf 0 a) (hb : S.Nf 0 b) (la : a.length ≤ 50) (lb : b.length ≤ 50) : (prtR a).length ≤ 1052 ∧ (prtR b).length ≤ 1052 ∧ a.length ≤ (prtR a).length ∧ b.length ≤ (prtR b).length := by
  have h1 := prtR_len ha
  have h2 := prtR_len hb
  have h3 := prt_long a
  have h4 := prt_long b
  refine ⟨by omega, by omega, ?_, ?_⟩ <;> simp [prtR] <;> omega

/-- two sets, one behind the other -/
theorem read_or {a b : List Sp} (ha : S.Nf 0 a) (hb : S.Nf 0 b) (la : a.length ≤ 50) (lb : b.length ≤ 50) (hn : (S.nf (S.orP a b)).length ≤ 200) : ∃ q, read ([91] ++ prtR a ++ prtR b ++ [93]) = .ok (S.nf (S.orP a b)) q := by
  obtain ⟨l1, l2, l3, l4⟩ := lens ha hb la lb
  generalize hl : [91] ++ prtR a ++ prtR b ++ [93] = l
  have hlen : l.length = (prtR a).length + (prtR b).length + 2 := by rw [← hl]; simp; omega
  have d0 : l.drop 0 = 91 :: (prtR a ++ (prtR b ++ [93])) := by rw [← hl]; simp
  have d1 := sits_tail d0
  have d2 := sits_next d1
  have d3 := sits_next d2
  obtain ⟨xa, ta, ea, na, na'⟩ := prtR_head a
  obtain ⟨xb, tb, eb, nb, nb'⟩ := prtR_head b
  have s0 := sits_head d0
  have s1 := sits_head (a := 91) (r := xa :: (ta ++ (prtR b ++ [93]))) (by rw [d1, ea]; rfl)
  have s2 := sits_head (a := 91) (r := xb :: (tb ++ [93])) (by rw [d2, eb]; rfl)
  have s3 := sits_head d3
  have p1 : part (setN 19 l) l [] (0 + 1) = .ok a (0 + 1 + (prtR a).length) := by
    rw [part_set d1 ha (by omega) (by omega), made_nf (by rw [nf_or_nil ha]; omega), nf_or_nil ha]
  have p2 : part (setN 19 l) l a (0 + 1 + (prtR a).length) = .ok (S.nf (S.orP a b)) (0 + 1 + (prtR a).length + (prtR b).length) := by
    rw [part_set d2 hb (by omega) (by omega), made_nf hn]
  have hset : setN 20 l 0 = .ok (S.nf (S.orP a b)) (0 + 1 + (prtR a).length + (prtR b).length + 1) := by
    rw [setN, s0, if_neg (by decide), s1, if_neg (by decide), skipW_here (by omega) (by decide) (by rw [s1]; decide), hlen]
    rw [loop_part (by rw [s1]; decide) p1 (skipW_here (by omega) (by decide) (by rw [s2]; decide))]
    rw [show (prtR a).length + (prtR b).length + 2 = (prtR a).length + (prtR b).length + 1 + 1 from rfl, loop_part (by rw [s2]; decide) p2 (skipW_here (by omega) (by decide) (by rw [s3]; decide))]
    rw [loop_end s3]
  exact ⟨_, read_set (by omega) s0 hset (by omega)⟩

theorem read_and {a b : List Sp} (ha : S.Nf 0 a) (hb : S.Nf 0 b) (la : a.length ≤ 50) (lb : b.length ≤ 50) (hn : (S.nf (S.andP a b)).length ≤ 200) : ∃ q, read ([91] ++ prtR a ++ [38] ++ prtR b ++ [93]) = .ok (S.nf (S.andP a b)) q := by
  obtain ⟨l1, l2, l3, l4⟩ := lens ha hb la lb
  generalize hl : [91] ++ prtR a ++ [38] ++ prtR b ++ [93] = l
  have hlen : l.length = (prtR a).length + (prtR b).length + 3 := by rw [← hl]; simp; omega
  have d0 : l.drop 0 = 91 :: (prtR a ++ (38 :: (prtR b ++ [93]))) := by rw [← hl]; simp
  have d1 := sits_tail d0
  have d2 := sits_next d1
  have d3 := sits_next (sits_tail d2)
  obtain ⟨xa, ta, ea, na, na'⟩ := prtR_head a
  have s0 := sits_head d0
  have s1 := sits_head (a := 91) (r := xa :: (ta ++ (38 :: (prtR b ++ [93])))) (by rw [d1, ea]; rfl)
  have s2 := sits_head d2
  have s3 := sits_head d3
  have p1 : part (setN 19 l) l [] (0 + 1) = .ok a (0 + 1 + (prtR a).length) := by
    rw [part_set d1 ha (by omega) (by omega), made_nf (by rw [nf_or_nil ha]; omega), nf_or_nil ha]
  have p2 : part (setN 19 l) l a (0 + 1 + (prtR a).length) = .ok (S.nf (S.andP a b)) (0 + 1 + (prtR a).length + 1 + (prtR b).length) := by
    rw [part_and d2 hb (by omega) (by omega), made_nf hn]
  have hset : setN 20 l 0 = .ok (S.nf (S.andP a b)) (0 + 1 + (prtR a).length + 1 + (prtR b).length + 1) := by
    rw [setN, s0, if_neg (by decide), s1, if_neg (by decide), skipW_here (by omega) (by decide) (by rw [s1]; decide), hlen]
    rw [loop_part (by rw [s1]; decide) p1 (skipW_here (by omega) (by decide) (by rw [s2]; decide))]
    rw [show (prtR a).length + (prtR b).length + 3 = (prtR a).length + (prtR b).length + 1 + 1 + 1 from rfl, loop_part (by rw [s2]; decide) p2 (skipW_here (by omega) (by decide) (by rw [s3]; decide))]
    rw [loop_end s3]
  exact ⟨_, read_set (by omega) s0 hset (by omega)⟩

theorem read_min {a b : List Sp} (ha : S.Nf 0 a) (hb : S.Nf 0 b) (la : a.length ≤ 50) (lb : b.length ≤ 50) (hn : (S.nf (S.minP a b)).length ≤ 200) : ∃ q, read ([91] ++ prtR a ++ [32, 45, 32] ++ prtR b ++ [93]) = .ok (S.nf (S.minP a b)) q := by
  obtain ⟨l1, l2, l3, l4⟩ := lens ha hb la lb
  generalize hl : [91] ++ prtR a ++ [32, 45, 32] ++ prtR b ++ [93] = l
  have hlen : l.length = (prtR a).length + (prtR b).length + 5 := by rw [← hl]; simp; omega
  have d0 : l.drop 0 = 91 :: (prtR a ++ ([32] ++ (45 :: ([32] ++ (prtR b ++ [93]))))) := by rw [← hl]; simp
  have d1 := sits_tail d0
  have d2 := sits_next d1
  have d2' := sits_next d2
  have d3 := sits_next (sits_next (sits_tail d2'))
  obtain ⟨xa, ta, ea, na, na'⟩ := prtR_head a
  have s0 := sits_head d0
  have s1 := sits_head (a := 91) (r := xa :: (ta ++ ([32] ++ (45 :: ([32] ++ (prtR b ++ [93])))))) (by rw [d1, ea]; rfl)
  have s2 := sits_head d2'
  have s3 := sits_head d3
  have p1 : part (setN 19 l) l [] (0 + 1) = .ok a (0 + 1 + (prtR a).length) := by
    rw [part_set d1 ha (by omega) (by omega), made_nf (by rw [nf_or_nil ha]; omega), nf_or_nil ha]
  have p2 : part (setN 19 l) l a (0 + 1 + (prtR a).length + ([32] : List Int).length) = .ok (S.nf (S.minP a b)) (0 + 1 + (prtR a).length + ([32] : List Int).length + 1 + ([32] : List Int).length + (prtR b).length) := by
    rw [part_min d2' (by decide) hb (by omega) (by omega), made_nf hn]
  have hset : setN 20 l 0 = .ok (S.nf (S.minP a b)) (0 + 1 + (prtR a).length + ([32] : List Int).length + 1 + ([32] : List Int).length + (prtR b).length + 1) := by
    rw [setN, s0, if_neg (by decide), s1, if_neg (by decide), skipW_here (by omega) (by decide) (by rw [s1]; decide), hlen]
    rw [loop_part (by rw [s1]; decide) p1 (skipW_sits d2 (by omega) (by decide) (by decide) (by rw [s2]; decide))]
    rw [show (prtR a).length + (prtR b).length + 5 = (prtR a).length + (prtR b).length + 3 + 1 + 1 from rfl, loop_part (by rw [s2]; decide) p2 (skipW_here (by simp only [List.length_singleton]; omega) (by decide) (by rw [s3]; decide))]
    rw [loop_end s3]
  exact ⟨_, read_set (by omega) s0 hset (by simp only [List.length_singleton]; omega)⟩

theorem read_not {a : List Sp} (ha : S.Nf 0 a) (la : a.length ≤ 50) (hn : (S.nf (S.notP a)).length ≤ 200) : ∃ q, read ([91, 94] ++ prtR a ++ [93]) = .ok (S.nf (S.notP a)) q := by
  obtain ⟨l1, _, l3, _⟩ := lens ha ha la la
  generalize hl : [91, 94] ++ prtR a ++ [93] = l
  have hlen : l.length = (prtR a).length + 3 := by rw [← hl]; simp
  have d0 : l.drop 0 = 91 :: 94 :: (prtR a ++ [93]) := by rw [← hl]; simp
  have d1 := sits_tail d0
  have d2 := sits_tail d1
  have d3 := sits_next d2
  obtain ⟨xa, ta, ea, na, na'⟩ := prtR_head a
  have s0 := sits_head d0
  have s1 := sits_head d1
  have s2 := sits_head (a := 91) (r := xa :: (ta ++ [93])) (by rw [d2, ea]; rfl)
  have s3 := sits_head d3
  have p1 : part (setN 19 l) l [] (0 + 2) = .ok a (0 + 2 + (prtR a).length) := by
    rw [part_set d2 ha (by omega) (by omega), made_nf (by rw [nf_or_nil ha]; omega), nf_or_nil ha]
  have hset : setN 20 l 0 = .ok (S.nf (S.notP a)) (0 + 2 + (prtR a).length + 1) := by
    rw [setN, s0, if_neg (by decide), s1, if_pos rfl, skipW_here (by omega) (by decide) (by rw [s2]; decide), hlen]
    rw [loop_part (by rw [s2]; decide) p1 (skipW_here (by omega) (by decide) (by rw [s3]; decide))]
    rw [show (prtR a).length + 3 = (prtR a).length + 1 + 1 + 1 from rfl, loop_end s3]
    simp only
    rw [made_nf hn]
  exact ⟨_, read_set (by omega) s0 hset (by omega)⟩

theorem any_not (a : List Sp) : S.minP [(0, 1114111)] a = S.notP a := by
  funext r
  have : S.inR r = S.memb [(0, 1114111)] r := by
    apply S.bool_eq
    rw [S.memb_iff]
    simp [S.inR]
  unfold S.minP S.notP
  rw [← this]
  cases S.inR r <;> simp

theorem read_any_minus {a : List Sp} (ha : S.Nf 0 a) (la : a.length ≤ 50) (hn : (S.nf (S.notP a)).length ≤ 200) : ∃ q, read ([32, 91, 91, 58, 97, 110, 121, 58, 93, 32, 45] ++ prtR a ++ [32, 93, 32]) = .ok (S.nf (S.notP a)) q := by
  obtain ⟨l1, _, l3, _⟩ := lens ha ha la la
  generalize hl : [32, 91, 91, 58, 97, 110, 121, 58, 93, 32, 45] ++ prtR a ++ [32, 93, 32] = l
  have hlen : l.length = (prtR a).length + 14 := by rw [← hl]; simp
  have d0 : l.drop 0 = [32] ++ (91 :: 91 :: 58 :: ([97, 110, 121] ++ (58 :: 93 :: ([32] ++ (45 :: ([] ++ (prtR a ++ ([32] ++ (93 :: [32])))))))))  := by rw [← hl]; simp
  have d1 := sits_next d0
  have d2 := sits_tail d1
  have d3 := sits_tail d2
  have d4 := sits_tail d3
  have d7 := sits_next d4
  have d8 := sits_tail d7
  have d9 := sits_tail d8
  have d10 := sits_next d9
  have d11 := sits_next (sits_tail d10)
  have e1 := sits_next d11
  have e2 := sits_next e1
  have e3 := sits_tail e2
  have s1 := sits_head d1
  have s2 := sits_head d2
  have s3 := sits_head d3
  have s7 := sits_head d7
  have s8 := sits_head d8
  have s10 := sits_head d10
  have se2 := sits_head e2
  simp only [List.length_cons, List.length_nil, Nat.zero_add] at *
  have hsk : skipW ordy l (1 + 1 + 1 + 1) = 1 + 1 + 1 + 1 + 3 := skipW_sits d4 (by omega) (by decide) (by decide) (by show ordy (see l (1 + 1 + 1 + 1 + 3)) = false; rw [s7]; decide)
  have hcut : cut l (1 + 1 + 1 + 1) (1 + 1 + 1 + 1 + 3) = [97, 110, 121] := by
    unfold cut
    rw [d4]; rfl
  have hany : S.Nf 0 [(0, 1114111)] := ⟨by decide, by decide, by decide, trivial⟩
  have p1 : part (setN 19 l) l [] (1 + 1) = .ok [(0, 1114111)] (1 + 1 + 1 + 1 + 3 + 1 + 1) := by
    have hcls : cls l (1 + 1) = .ok [(0, 1114111)] (1 + 1 + 1 + 1 + 3 + 1 + 1) := by
      unfold cls
      rw [hsk, hcut]
      simp only [show classOf [97, 110, 121] = some [(0, 1114111)] from by decide]
      rw [s7, if_neg (by decide), s8, if_neg (by decide)]
    unfold part
    rw [s2, if_neg (by decide), if_neg (by decide), s3, if_pos ⟨rfl, rfl⟩, hcls]
    simp only
    rw [made_nf (by rw [nf_or_nil hany]; decide), nf_or_nil hany]
  have p2 : part (setN 19 l) l [(0, 1114111)] (1 + 1 + 1 + 1 + 3 + 1 + 1 + 1) = .ok (S.nf (S.notP a)) (1 + 1 + 1 + 1 + 3 + 1 + 1 + 1 + 1 + 0 + (prtR a).length) := by
    rw [part_min d10 (by decide) ha (by omega) (by omega), any_not, made_nf hn]; rfl
  have hset : setN 20 l 1 = .ok (S.nf (S.notP a)) (1 + 1 + 1 + 1 + 3 + 1 + 1 + 1 + 1 + 0 + (prtR a).length + 1 + 1) := by
    rw [setN, s1, if_neg (by decide), s2, if_neg (by decide), skipW_here (by omega) (by decide) (by rw [s2]; decide), hlen]
    rw [loop_part (by rw [s2]; decide) p1 (skipW_sits d9 (by omega) (by decide) (by decide) (by show blank (see l (1 + 1 + 1 + 1 + 3 + 1 + 1 + 1)) = false; rw [s10]; decide))]
    simp only [List.length_cons, List.length_nil, Nat.zero_add]
    rw [show (prtR a).length + 14 = (prtR a).length + 12 + 1 + 1 from rfl, loop_part (by rw [s10]; decide) p2 (skipW_sits e1 (by omega) (by decide) (by decide) (by show blank (see l (1 + 1 + 1 + 1 + 3 + 1 + 1 + 1 + 1 + 0 + (prtR a).length + 1)) = false; rw [se2]; decide))]
    simp only [List.length_cons, List.length_nil, Nat.zero_add]
    rw [loop_end se2]
  refine ⟨1 + 1 + 1 + 1 + 3 + 1 + 1 + 1 + 1 + 0 + (prtR a).length + 1 + 1, ?_⟩
  unfold read
  rw [if_neg (by omega)]
  unfold whole
  rw [skipW_sits d0 (by omega) (by decide) (by decide) (by show blank (see l (0 + 1)) = false; rw [s1]; decide)]
  simp only [List.length_cons, List.length_nil, Nat.zero_add]
  rw [hset]
  simp only
  have hend : skipW blank l (1 + 1 + 1 + 1 + 3 + 1 + 1 + 1 + 1 + 0 + (prtR a).length + 1 + 1) = l.length := by
    have h := skipW_sits (f := blank) (m := [32]) (r := []) (by rw [e3]; rfl) (by omega) (by decide) (by decide) (by rw [see_ge (by simp only [List.length_singleton]; omega)]; decide)
    rw [h]; simp only [List.length_singleton]; omega
  rw [hend, see_ge (Nat.le_refl _), if_pos rfl]

/-- the closed fact: "[a-c e]" -/
theorem read_alive : read [91, 97, 45, 99, 32, 101, 93] = .ok [(97, 99), (101, 101)] 7 := by
  have h1 : S.Nf 0 [(97, 99)] := ⟨by decide, by decide, by decide, trivial⟩
  have h2 : S.Nf 0 [(97, 99), (101, 101)] := ⟨by decide, by decide, by decide, by decide, by decide, by decide, trivial⟩
  have p1 : part (setN 19 [91, 97, 45, 99, 32, 101, 93]) [91, 97, 45, 99, 32, 101, 93] [] 1 = .ok [(97, 99)] 4 := by
    unfold part
    rw [if_neg (by decide), if_neg (by decide), if_neg (by decide), if_neg (by decide), show span [91, 97, 45, 99, 32, 101, 93] 1 = .ok (97, 99) 4 from rfl]
    simp only
    rw [made_nf (by rw [nf_or_nil h1]; decide), nf_or_nil h1]
  have e2 : S.nf (S.orP [(97, 99)] [(101, 101)]) = [(97, 99), (101, 101)] := S.nf_eq (is_or h2 fun r => by rw [← S.memb_append]; rfl)
  have p2 : part (setN 19 [91, 97, 45, 99, 32, 101, 93]) [91, 97, 45, 99, 32, 101, 93] [(97, 99)] 5 = .ok [(97, 99), (101, 101)] 6 := by
    unfold part
    rw [if_neg (by decide), if_neg (by decide), if_neg (by decide), if_neg (by decide), show span [91, 97, 45, 99, 32, 101, 93] 5 = .ok (101, 101) 6 from rfl]
    simp only
    rw [made_nf (by rw [e2]; decide), e2]
  have hset : setN 20 [91, 97, 45, 99, 32, 101, 93] 0 = .ok [(97, 99), (101, 101)] 7 := by
    rw [setN, if_neg (by decide), if_neg (by decide), show skipW blank [91, 97, 45, 99, 32, 101, 93] (0 + 1) = 1 from rfl]
    rw [show ([91, 97, 45, 99, 32, 101, 93] : List Int).length + 1 = 5 + 1 + 1 + 1 from rfl, loop_part (by decide) p1 (show skipW blank [91, 97, 45, 99, 32, 101, 93] 4 = 5 from rfl), loop_part (by decide) p2 (show skipW blank [91, 97, 45, 99, 32, 101, 93] 6 = 6 from rfl), loop_end (by decide)]
  exact read_set (by decide) rfl hset rfl

end Go.Proofs.YtchkcjaahjhbcabGreatDoor.T

/-
  Files of rules: what Print writes Read reads.
-/
namespace Go.Proofs.YtchkcjaahjhbcabGreatDoor.R
open S (Sp)
open T (Out see skipW cut sits_see sits_next sits_len sits_head sits_tail sits_lt skipW_sits skipW_here)

/-! what is left of things by their kinds -/
def bareI (x : Item) : Item := if x.kind = 1 then runeI x.rune else if x.kind = 2 then setI x.set else if x.kind = 3 then varI x.name else ⟨x.kind, 0, [], ⟨#[]⟩⟩
def bareS (s : Side) : Side := ⟨s.start, s.fin, s.before.map bareI, s.source.map bareI, s.after.map bareI, s.cursor⟩
def bareP (p : Part) : Part :=
  ⟨p.kind, if p.kind = 1 ∨ p.kind = 4 then p.name else ⟨#[]⟩, if p.kind = 1 ∨ p.kind = 3 then p.set else [], if p.kind = 2 then p.dir else 0, if p.kind = 2 then bareS p.left else noSide, if p.kind = 2 then bareS p.right else noSide⟩

/-! the runes of what is written -/
def nameR (n : ByteArray) : List Int := n.data.toList.map fun b => (b.toNat : Int)
def itemR (x : Item) : List Int :=
  if x.kind = 2 then T.prtR x.set
  else if x.kind = 3 then 36 :: nameR x.name
  else T.quoR x.rune
def barR : List Int := [124, 32]
def itemsR : List Item → Int → List Int
  | [], c => if c = 0 then barR else []
  | x :: l, c => (if c = 0 then barR else []) ++ (itemR x ++ [32]) ++ itemsR l (c - 1)
def sideR (s : Side) : List Int :=
  (if s.start = true then [94, 32] else []) ++ itemsR s.before (-1) ++ (if s.start = true ∨ 0 < s.before.length then [123, 32] else []) ++
    itemsR s.source s.cursor ++ (if s.fin = true ∨ 0 < s.after.length then [125, 32] else []) ++ itemsR s.after (-1) ++ (if s.fin = true then [36, 32] else [])
def arrowR (d : Int) : List Int := if d = 1 then [62] else if d = 2 then [60] else [60, 62]
def wordsR (p : Part) : List Int :=
  if p.kind = 1 then (36 :: nameR p.name) ++ [32] ++ [61, 32] ++ (T.prtR p.set ++ [32])
  else if p.kind = 3 then [58, 58, 32] ++ (T.prtR p.set ++ [32])
  else if p.kind = 4 then [58, 58, 32] ++ (nameR p.name ++ [32])
  else if p.kind = 2 then sideR p.left ++ (arrowR p.dir ++ [32]) ++ sideR p.right
  else []
def partR (p : Part) : List Int := wordsR p ++ [59, 10]
def printR (l : List Part) : List Int := l.flatMap partR

theorem itemE_cases {x : Item} (h : itemE x = 0) : (x.kind = 1 ∧ M.right x.rune = true) ∨ (x.kind = 2 ∧ S.wrongE x.set = 0) ∨ (x.kind = 3 ∧ named x.name = true) := by
  unfold itemE at h
  by_cases h1 : x.kind = 1
  · rw [if_pos h1] at h
    by_cases h2 : M.right x.rune = true
    · exact .inl ⟨h1, h2⟩
    · rw [if_neg h2] at h; cases h
  · rw [if_neg h1] at h
    by_cases h2 : x.kind = 2
    · rw [if_pos h2] at h; exact .inr (.inl ⟨h2, h⟩)
    · rw [if_neg h2] at h
      by_cases h3 : x.kind = 3
      · rw [if_pos h3] at h
        by_cases h4 : named x.name = true
        · exact .inr (.inr ⟨h3, h4⟩)
        · rw [if_neg h4] at h; cases h
      · rw [if_neg h3] at h; cases h
theorem partE_cases {p : Part} (h : partE p = 0) : (p.kind = 1 ∧ named p.name = true ∧ S.wrongE p.set = 0) ∨ (p.kind = 3 ∧ S.wrongE p.set = 0) ∨ (p.kind = 4 ∧ passes p.name = true) ∨ (p.kind = 2 ∧ ruleE p = 0) := by
  unfold partE at h
  by_cases h1 : p.kind = 1
  · rw [if_pos h1] at h
    by_cases h2 : named p.name = true
    · rw [if_pos h2] at h; exact .inl ⟨h1, h2, h⟩
    · rw [if_neg h2] at h; cases h
  · rw [if_neg h1] at h
    by_cases h2 : p.kind = 3
    · rw [if_pos h2] at h; exact .inr (.inl ⟨h2, h⟩)
    · rw [if_neg h2] at h
      by_cases h3 : p.kind = 4
      · rw [if_pos h3] at h
        by_cases h4 : passes p.name = true
        · exact .inr (.inr (.inl ⟨h3, h4⟩))
        · rw [if_neg h4] at h; cases h
      · rw [if_neg h3] at h
        by_cases h4 : p.kind = 2
        · rw [if_pos h4] at h; exact .inr (.inr (.inr ⟨h4, h⟩))
        · rw [if_neg h4] at h; cases h

/-! names -/
theorem goodFrom_all : ∀ {l : List UInt8} {i : Nat}, goodFrom i l = true → ∀ b ∈ l, wordy (b.toNat : Int) = true := by
  intro l
  induction l with
  | nil => intro i _ b hb; cases hb
  | cons a l ih =>
    intro i h b hb
    rw [goodFrom, Bool.and_eq_true] at h
    rcases List.mem_cons.1 hb with rfl | hb
    · have := h.1
      unfold good at this
      unfold wordy
      simp only [Bool.or_eq_true, Bool.and_eq_true] at this ⊢
      rcases this with h1 | h1
      · exact .inl h1
      · exact .inr h1.2
    · exact ih h.2 b hb
theorem wordy_small {r : Int} (h : wordy r = true) : 48 ≤ r ∧ r ≤ 122 := by
  unfold wordy letter digit at h
  simp only [Bool.or_eq_true, Bool.and_eq_true, decide_eq_true_eq] at h
  omega
theorem named_runes {n : ByteArray} (h : named n = true) : (∀ r ∈ nameR n, wordy r = true) ∧ ∃ a t, nameR n = a :: t ∧ letter a = true := by
  unfold named at h
  simp only [Bool.and_eq_true, decide_eq_true_eq] at h
  obtain ⟨⟨h1, h2⟩, _⟩ := h
  have hall := goodFrom_all h1
  refine ⟨fun r hr => ?_, ?_⟩
  · obtain ⟨b, hb, rfl⟩ := List.mem_map.1 hr
    exact hall b hb
  · unfold nameR
    cases hc : n.data.toList with
    | nil =>
      have h0 : n.data.toList.length = n.size := by simp
      rw [hc] at h0
      have h0' : (0 : Nat) = n.size := h0
      omega
    | cons a t =>
      rw [hc, goodFrom, Bool.and_eq_true] at h1
      refine ⟨_, _, rfl, ?_⟩
      have := h1.1
      unfold good at this
      simpa using this
theorem bytes_nameR (n : ByteArray) : bytes (nameR n) = n := by
  unfold bytes nameR
  rw [List.map_map]
  have : ((fun r : Int => UInt8.ofNat r.toNat) ∘ fun b : UInt8 => (b.toNat : Int)) = id := by
    funext b; simp
  rw [this, List.map_id]
theorem letter_wordy {r : Int} (h : letter r = true) : wordy r = true := by unfold wordy; rw [h]; rfl
theorem nowordy32 : wordy 32 = false := by decide
theorem nowordyEnd : wordy (-1) = false := by decide

/-- the word that stands at p, with a blank behind it -/
theorem word_at {l rest m : List Int} {p : Nat} (h : l.drop p = m ++ 32 :: rest) (hm : ∀ r ∈ m, wordy r = true) (hf : ∃ a t, m = a :: t ∧ letter a = true) : wordEnd l p = p + m.length ∧ wordAt l p = bytes m := by
  obtain ⟨a, t, rfl, ha⟩ := hf
  have h1 := sits_head (a := a) (r := t ++ 32 :: rest) (by simpa using h)
  have hlt := sits_lt (a := a) (r := t ++ 32 :: rest) (by simpa using h)
  have h2 := sits_head (sits_next h)
  have e : wordEnd l p = p + (a :: t).length := by
    unfold wordEnd
    rw [h1, if_pos ha]
    exact skipW_sits h (by omega) hm nowordyEnd (by rw [h2]; exact nowordy32)
  refine ⟨e, ?_⟩
  unfold wordAt cut
  rw [e, h, Nat.add_sub_cancel_left, List.take_left]
theorem passes_named {n : ByteArray} (h : passes n = true) : (∀ r ∈ nameR n, wordy r = true) ∧ ∃ a t, nameR n = a :: t ∧ letter a = true := by
  unfold passes at h
  have h := of_decide_eq_true h
  have e : nameR n = n.toList.map fun b => (b.toNat : Int) := by
    unfold nameR; rw [ByteArray.toList_eq]
  rw [e]
  rcases h with h | h | h | h <;> rw [h] <;> exact ⟨by decide, _, _, rfl, by decide⟩

/-! gaps -/
def bl (m : List Int) : Prop := ∀ x ∈ m, T.blank x = true
theorem bl_nil : bl [] := fun x hx => by cases hx
theorem bl32 : bl [32] := fun x hx => by rw [List.mem_singleton] at hx; subst hx; decide
theorem bl10 : bl [10] := fun x hx => by rw [List.mem_singleton] at hx; subst hx; decide
theorem gap_at {l m r : List Int} {p : Nat} {a : Int} (h : l.drop p = m ++ a :: r) (hm : bl m) (hb : T.blank a = false) (h35 : a ≠ 35) : gap l p = p + m.length := by
  have hp : p ≤ l.length := by
    apply Classical.byContradiction
    intro hn
    rw [List.drop_eq_nil_of_le (by omega)] at h
    cases m <;> cases h
  have hs := sits_head (sits_next h)
  have hk := skipW_sits h hp hm (by decide) (by rw [hs]; exact hb)
  unfold gap gapN
  rw [hk, hs, if_neg h35]
theorem gap_end {l m : List Int} {p : Nat} (h : l.drop p = m) (hp : p ≤ l.length) (hm : bl m) : gap l p = l.length := by
  have h' : l.drop p = m ++ [] := by rw [h, List.append_nil]
  have hl := sits_len h' hp
  have hse : see l (p + m.length) = -1 := T.see_ge (by simp at hl; omega)
  have hk := skipW_sits h' hp hm (by decide) (by rw [hse]; decide)
  unfold gap gapN
  rw [hk, hse, if_neg (by decide)]
  simp at hl; omega

/-! items -/
theorem right_bound {r : Int} (h : M.right r = true) : 0 ≤ r ∧ r ≤ 1114111 := by
  unfold M.right at h
  have := of_decide_eq_true h
  omega

/-- what the first rune of an item is -/
theorem itemR_head {x : Item} (h : itemE x = 0) : ∃ a t, itemR x = a :: t ∧ (a = 92 ∨ T.plain a = true ∨ a = 91 ∨ a = 36) := by
  rcases itemE_cases h with ⟨h1, _⟩ | ⟨h1, _⟩ | ⟨h1, _⟩
  · obtain ⟨a, t, ha, hf⟩ := T.quoR_cons (r := x.rune)
    refine ⟨a, t, by unfold itemR; rw [if_neg (by omega), if_neg (by omega)]; exact ha, ?_⟩
    rcases hf with hf | hf
    · exact .inl hf
    · exact .inr (.inl hf)
  · obtain ⟨a, t, ha, _⟩ := T.prtR_head x.set
    exact ⟨91, a :: t, by unfold itemR; rw [if_pos h1]; exact ha, by simp⟩
  · exact ⟨36, nameR x.name, by unfold itemR; rw [if_neg (by omega), if_pos h1], by simp⟩
theorem itemR_not {a : Int} (h : a = 92 ∨ T.plain a = true ∨ a = 91 ∨ a = 36) : a ≠ 124 ∧ a ≠ 35 ∧ a ≠ 61 ∧ a ≠ 58 ∧ a ≠ 94 ∧ a ≠ 123 ∧ a ≠ 125 ∧ T.blank a = false := by
  have hb : T.blank a = false ↔ ¬ (a = 32 ∨ a = 9 ∨ a = 10) := by simp [T.blank, T.blanks]
  rw [hb]
  rcases h with rfl | h | rfl | rfl
  · decide
  · have := T.plain_cases h; omega
  · decide
  · decide

theorem varAt_named {l rest : List Int} {p : Nat} {n : ByteArray} (h : l.drop p = 36 :: nameR n ++ 32 :: rest) (hn : named n = true) : varNext l p = true ∧ varAt l p = .ok n (p + 1 + (nameR n).length) := by
  obtain ⟨hall, hf⟩ := named_runes hn
  have h36 := sits_head (a := 36) (r := nameR n ++ 32 :: rest) (by simpa using h)
  have t := sits_tail (a := 36) (r := nameR n ++ 32 :: rest) (by simpa using h)
  obtain ⟨e1, e2⟩ := word_at t hall hf
  rw [bytes_nameR] at e2
  obtain ⟨a, u, ha, hl⟩ := hf
  have h1 := sits_head (a := a) (r := u ++ 32 :: rest) (by rw [t, ha]; rfl)
  refine ⟨?_, ?_⟩
  · unfold varNext; rw [h36, h1, hl]; rfl
  · unfold varAt; rw [e2, if_pos hn, e1]

theorem item_read {l rest : List Int} {p : Nat} {x : Item} (h : l.drop p = itemR x ++ 32 :: rest) (hx : itemE x = 0) : item l p = .ok (some [bareI x]) (p + (itemR x).length) := by
  rcases itemE_cases hx with ⟨h1, h2⟩ | ⟨h1, h2⟩ | ⟨h1, h2⟩
  · have e : itemR x = T.quoR x.rune := by unfold itemR; rw [if_neg (by omega), if_neg (by omega)]
    rw [e] at h ⊢
    obtain ⟨b0, b1⟩ := right_bound h2
    have hc := T.chr_quo h b0 b1
    obtain ⟨a, t, ha, hf⟩ := T.quoR_cons (r := x.rune)
    have hs := sits_head (a := a) (r := t ++ 32 :: rest) (by rw [h, ha]; rfl)
    have hn : a ≠ 91 ∧ a ≠ 36 ∧ a ≠ 39 ∧ (a = 92 ∨ T.ordy a = true) := by
      rcases hf with rfl | hf
      · decide
      · have := T.plain_cases hf
        exact ⟨by omega, by omega, by omega, .inr (T.ordy_plain hf)⟩
    have hv : varNext l p = false := by unfold varNext; rw [hs, decide_eq_false hn.2.1]; rfl
    unfold item
    rw [hs, if_neg hn.1, hv, if_neg (by simp), if_neg hn.2.2.1, if_pos hn.2.2.2, hc]
    simp only
    rw [if_pos h2]
    unfold bareI
    rw [if_pos h1]
  · have e : itemR x = T.prtR x.set := by unfold itemR; rw [if_pos h1]
    rw [e] at h ⊢
    obtain ⟨hl, hn⟩ := S.wrongE_zero.1 h2
    obtain ⟨a, t, ha, _⟩ := T.prtR_head x.set
    have hs := sits_head (a := 91) (r := a :: t ++ 32 :: rest) (by rw [h, ha]; rfl)
    have hlt := sits_lt (a := 91) (r := a :: t ++ 32 :: rest) (by rw [h, ha]; rfl)
    have hlong := T.prt_long x.set
    have hlen := sits_len h (by omega)
    have hsz : (T.prtR x.set).length = (T.innerR x.set).length + 2 := by simp [T.prtR]
    have hset := T.set_prt (n := 19) h hn hl (by omega)
    unfold item
    rw [hs, if_pos rfl, hset]
    unfold bareI
    rw [if_neg (by omega), if_pos h1]
  · have e : itemR x = 36 :: nameR x.name := by unfold itemR; rw [if_neg (by omega), if_pos h1]
    rw [e] at h ⊢
    obtain ⟨hv, ha⟩ := varAt_named h h2
    have h36 := sits_head (a := 36) (r := nameR x.name ++ 32 :: rest) (by simpa using h)
    unfold item
    rw [h36, if_neg (by decide), hv, if_pos rfl, ha]
    simp only
    unfold bareI
    rw [if_neg (by omega), if_neg (by omega), if_pos h1, List.length_cons]
    congr 1
    omega

/-- what ends items -/
def stops (a : Int) (r : List Int) : Prop := a = 123 ∨ a = 125 ∨ a = 62 ∨ a = 60 ∨ a = 59 ∨ (a = 36 ∧ ∃ r', r = 32 :: r')
theorem item_stop {l r : List Int} {p : Nat} {a : Int} (h : l.drop p = a :: r) (hs : stops a r) : item l p = .ok none p ∧ a ≠ 124 ∧ a ≠ 35 ∧ a ≠ 61 ∧ a ≠ 58 ∧ a ≠ 94 ∧ T.blank a = false := by
  have h0 := sits_head h
  have hv : varNext l p = false := by
    unfold varNext
    rw [h0]
    rcases hs with rfl | rfl | rfl | rfl | rfl | ⟨rfl, r', rfl⟩
    · rfl
    · rfl
    · rfl
    · rfl
    · rfl
    · rw [sits_head (sits_tail h)]; rfl
  have hn : a ≠ 91 ∧ a ≠ 39 ∧ ¬ (a = 92 ∨ T.ordy a = true) ∧ a ≠ 124 ∧ a ≠ 35 ∧ a ≠ 61 ∧ a ≠ 58 ∧ a ≠ 94 ∧ T.blank a = false := by
    rcases hs with rfl | rfl | rfl | rfl | rfl | ⟨rfl, _⟩ <;> decide
  refine ⟨?_, hn.2.2.2⟩
  unfold item
  rw [h0, if_neg hn.1, hv, if_neg (by simp), if_neg hn.2.1, if_neg hn.2.2.1]

/-- what the first rune of items is, or of what stops them -/
theorem itemsR_head {ys : List Item} {k : Int} {a : Int} {r : List Int} (hy : ∀ x ∈ ys, itemE x = 0) (hs : stops a r) : ∃ b t, itemsR ys k ++ a :: r = b :: t ∧ b ≠ 35 ∧ b ≠ 61 ∧ b ≠ 58 ∧ b ≠ 94 ∧ T.blank b = false := by
  have ha := item_stop (l := a :: r) (p := 0) (a := a) (r := r) rfl hs
  cases ys with
  | nil =>
    rw [itemsR]
    by_cases hk : k = 0
    · rw [if_pos hk]; exact ⟨124, _, rfl, by decide⟩
    · rw [if_neg hk]; exact ⟨a, r, rfl, ha.2.2⟩
  | cons x ys =>
    rw [itemsR]
    by_cases hk : k = 0
    · rw [if_pos hk]; exact ⟨124, _, rfl, by decide⟩
    · obtain ⟨b, t, hb, hf⟩ := itemR_head (hy x (by simp))
      have hn := itemR_not hf
      rw [if_neg hk, hb]
      exact ⟨b, _, rfl, hn.2.1, hn.2.2.1, hn.2.2.2.1, hn.2.2.2.2.1, hn.2.2.2.2.2.2.2⟩

theorem items_go {l r : List Int} {a : Int} (hs : stops a r) : ∀ (ys xs : List Item) (k c : Int) (f p : Nat) (bs : List Int), l.drop p = bs ++ (itemsR ys k ++ a :: r) → bl bs → (∀ x ∈ ys, itemE x = 0) → xs.length + ys.length ≤ 20 → k ≤ ys.length → (0 ≤ k → c < 0) → 2 * ys.length + 2 ≤ f →
    itemsN f l xs c p = .ok (xs ++ ys.map bareI, if 0 ≤ k then xs.length + k else c) (p + bs.length + (itemsR ys k).length) := by
  intro ys
  induction ys with
  | nil =>
    intro xs k c f p bs h hb _ hl hk hc hf
    obtain ⟨f, rfl⟩ : ∃ g, f = g + 2 := ⟨f - 2, by simp at hf; omega⟩
    simp at hk
    by_cases hk0 : k = 0
    · subst hk0
      rw [itemsR, if_pos rfl] at h ⊢
      have h1 : l.drop p = bs ++ 124 :: (32 :: a :: r) := by rw [h]; rfl
      have g1 := gap_at h1 hb (by decide) (by decide)
      have n1 := sits_next h1
      have s1 := sits_head n1
      have t1 := sits_tail n1
      have hst := fun q (hq : l.drop q = a :: r) => item_stop hq hs
      have hq := hst (p + bs.length + 1 + 1) (sits_tail t1)
      have g2 := gap_at (m := [32]) (l := l) (p := p + bs.length + 1) (by rw [t1]; rfl) bl32 hq.2.2.2.2.2.2 hq.2.2.1
      have s2 := sits_head (sits_tail t1)
      rw [itemsN, g1, s1, if_pos rfl, if_neg (by have := hc (by omega); omega), itemsN, g2]
      simp only [List.length_singleton]
      rw [s2, if_neg hq.2.1, hq.1]
      simp [barR]
    · rw [itemsR, if_neg hk0] at h ⊢
      have h1 : l.drop p = bs ++ a :: r := by rw [h]; rfl
      have n1 := sits_next h1
      have hq := item_stop n1 hs
      have g1 := gap_at h1 hb hq.2.2.2.2.2.2 hq.2.2.1
      rw [itemsN, g1, sits_head n1, if_neg hq.2.1, hq.1]
      simp
      omega
  | cons x ys ih =>
    intro xs k c f p bs h hb hy hl hk hc hf
    obtain ⟨f, rfl⟩ : ∃ g, f = g + 2 := ⟨f - 2, by simp at hf; omega⟩
    simp only [List.length_cons] at hl hk hf
    obtain ⟨b, t, hbt, hfi⟩ := itemR_head (hy x (by simp))
    have hn := itemR_not hfi
    have hx := hy x (by simp)
    -- the item itself, and what follows
    have step : ∀ (f p : Nat) (bs : List Int) (k c : Int), l.drop p = bs ++ (itemR x ++ 32 :: (itemsR ys k ++ a :: r)) → bl bs → k ≤ ys.length → (0 ≤ k → c < 0) → 2 * ys.length + 2 ≤ f →
        itemsN (f + 1) l xs c p = .ok (xs ++ (x :: ys).map bareI, if 0 ≤ k then xs.length + 1 + k else c) (p + bs.length + (itemR x).length + 1 + (itemsR ys k).length) := by
      intro f p bs k c h hb hk hc hf
      have n1 := sits_next h
      have hd : l.drop (p + bs.length) = b :: (t ++ 32 :: (itemsR ys k ++ a :: r)) := by rw [n1, hbt]; rfl
      have g1 := gap_at (a := b) (r := t ++ 32 :: (itemsR ys k ++ a :: r)) (m := bs) (l := l) (p := p) (by rw [h, hbt]; rfl) hb hn.2.2.2.2.2.2.2 hn.2.1
      have hi := item_read n1 hx
      have hnx := sits_next n1
      have := ih (xs ++ [bareI x]) k c f (p + bs.length + (itemR x).length) [32] (by rw [hnx]; rfl) bl32 (fun y hy' => hy y (List.mem_cons_of_mem _ hy')) (by simp; omega) hk hc (by omega)
      rw [itemsN, g1, sits_head hd, if_neg hn.1, hi]
      simp only
      rw [if_neg (by simp; omega), this]
      simp
    by_cases hk0 : k = 0
    · subst hk0
      rw [itemsR, if_pos rfl] at h ⊢
      have h1 : l.drop p = bs ++ 124 :: (32 :: (itemR x ++ 32 :: (itemsR ys (0 - 1) ++ a :: r))) := by rw [h]; simp [barR]
      have g1 := gap_at h1 hb (by decide) (by decide)
      have n1 := sits_next h1
      have s1 := sits_head n1
      have t1 := sits_tail n1
      have hst := step f (p + bs.length + 1) [32] (0 - 1) xs.length (by rw [t1]; rfl) bl32 (by omega) (by omega) (by omega)
      rw [itemsN, g1, s1, if_pos rfl, if_neg (by have := hc (by omega); omega), hst]
      rw [if_neg (by omega), if_pos (by omega)]
      simp [barR]
      omega
    · rw [itemsR, if_neg hk0] at h ⊢
      have h1 : l.drop p = bs ++ (itemR x ++ 32 :: (itemsR ys (k - 1) ++ a :: r)) := by rw [h]; simp
      have hst := step (f + 1) p bs (k - 1) c h1 hb (by omega) (fun h0 => hc (by omega)) (by omega)
      rw [hst]
      by_cases hk1 : 0 ≤ k
      · rw [if_pos (by omega), if_pos hk1]
        simp
        refine ⟨by omega, by omega⟩
      · rw [if_neg (by omega), if_neg hk1]
        simp
        try omega

theorem itemsR_len : ∀ (ys : List Item) (k : Int), (∀ x ∈ ys, itemE x = 0) → 2 * ys.length ≤ (itemsR ys k).length := by
  intro ys
  induction ys with
  | nil => intro k _; simp
  | cons x ys ih =>
    intro k h
    have := ih (k - 1) fun y hy => h y (List.mem_cons_of_mem _ hy)
    obtain ⟨a, t, ha, _⟩ := itemR_head (h x (by simp))
    rw [itemsR, ha]
    simp only [List.length_append, List.length_cons, List.length_nil]
    omega

theorem items_read {l r bs : List Int} {a : Int} (hs : stops a r) {ys : List Item} {k : Int} {p : Nat} (h : l.drop p = bs ++ (itemsR ys k ++ a :: r)) (hb : bl bs) (hy : itemsE ys = 0) (hk1 : -1 ≤ k) (hk : k ≤ ys.length) :
    ∃ q, items l p = .ok (ys.map bareI, k) q ∧ l.drop q = a :: r := by
  obtain ⟨h20, hall⟩ := itemsE_zero.1 hy
  have hp : p < l.length := by
    apply Classical.byContradiction
    intro hn
    rw [List.drop_eq_nil_of_le (by omega)] at h
    have := congrArg List.length h
    simp at this
  have hlen := sits_len h (by omega)
  have hil := itemsR_len ys k hall
  simp only [List.length_append, List.length_cons] at hlen
  have := items_go hs ys [] k (-1) (l.length + 2) p bs h hb hall (by simpa using h20) hk (by omega) (by omega)
  refine ⟨_, ?_, sits_next (sits_next h)⟩
  unfold items
  rw [this]
  simp
  intro h0
  omega

end Go.Proofs.YtchkcjaahjhbcabGreatDoor.R

/-
  Names of variables, and of passes that are there already.
-/
namespace Go.Proofs.YtchkcjaahjhbcabGreatDoor
open Go.RowKit

theorem letter_any (r : Int) (w : World) :
    Calls Tryz.prog 68 #[.int .i32 r] w fun e w' => e = .returned (.bool (R.letter r)) ∧ w' = w := by
  go_enter Tryz.func68, Tryz.ntmps68
  go_wp2
  all_goals go_ret
  all_goals refine ⟨L.ret_bool ?_, rfl⟩
  all_goals (unfold R.letter; rw [Bool.eq_iff_iff]; simp; try omega)
theorem digit_any (r : Int) (w : World) :
    Calls Tryz.prog 69 #[.int .i32 r] w fun e w' => e = .returned (.bool (R.digit r)) ∧ w' = w := by
  go_enter Tryz.func69, Tryz.ntmps69
  go_wp2
  all_goals go_ret
  all_goals refine ⟨L.ret_bool ?_, rfl⟩
  all_goals (unfold R.digit; rw [Bool.eq_iff_iff]; simp; try omega)

theorem d0_wide (L : List UInt8) (h : 128 ≤ M.bt L 0) : 128 ≤ (M.d0 L).1 := by
  unfold M.d0 Lib.decodeN
  repeat' split
  all_goals simp only
  all_goals omega

theorem good_drop {l : List UInt8} {k : Nat} {b : UInt8} (hx : l[k]? = some b) : R.goodFrom k (l.drop k) = (R.good k b && R.goodFrom (k + 1) (l.drop (k + 1))) := by
  have hlt := (List.getElem?_eq_some_iff.1 hx).1
  rw [List.drop_eq_getElem_cons hlt]
  have : l[k] = b := by rw [List.getElem?_eq_getElem hlt] at hx; exact Option.some.inj hx
  rw [this]; rfl

theorem good_no {i : Nat} {b : UInt8} (h : 128 ≤ b.toNat) : R.good i b = false := by
  unfold R.good R.letter R.digit
  rw [Bool.eq_false_iff]
  simp
  omega

set_option maxHeartbeats 2000000 in
theorem named_any (s : ByteArray) (w : World) :
    Calls Tryz.prog 48 #[.string s] w fun e w' => e = .returned (.bool (R.named s)) ∧ Below w.heap.size w w' := by
  obtain ⟨o, HO⟩ : ∃ o, Hid (R.named s = o) := ⟨_, rfl⟩
  rw [HO.out]
  have HLn : Hid (s.data.toList.length = s.size) := by show _ = _; simp
  go_enter Tryz.func48, Tryz.ntmps48
  go_wp2
  go_loopw [3] (fun _ wr => ∃ pos : Nat, wr.heap[w.heap.size]? = some (.stringIter s pos) ∧ Hid (Below w.heap.size w wr) ∧ Hid (R.goodFrom 0 s.data.toList = R.goodFrom pos (s.data.toList.drop pos))) (fun _ wr => s.size - wr.iterPos w.heap.size)
  case atStart => exact ⟨0, World.iter_heap w s 0, (Below.refl _ _).alloc (Nat.le_refl _) _, rfl⟩
  case round =>
    obtain ⟨pos, hit, HB, HG⟩ := hrel
    have hpos0 := iterPos_of hit
    by_cases hp : pos < s.size
    · have hnx : ∀ ty, (Instr.next (.pointer (some ⟨w.heap.size, 0, none⟩)) true ty).run Tryz.prog wr = _ := fun ty => Lib.run_next_any_at wr w.heap.size s pos ty hit hp
      have hwd := M.width_pos s pos hp
      have hit2 := Lib.iterAt_heap wr w.heap.size s pos (pos + (Utf8.decode s pos).2) hit
      have HB2 : Hid (Below w.heap.size w (wr.iterAt w.heap.size s (pos + (Utf8.decode s pos).2))) := Lib.below_iterAt HB.out (k := w.heap.size) (Nat.le_refl _) s (pos + (Utf8.decode s pos).2)
      obtain ⟨b, hb⟩ : ∃ b, s.data.toList[pos]? = some b := ⟨s.data.toList[pos]'(by have := HLn.out; omega), by rw [List.getElem?_eq_getElem]⟩
      have hb0 : M.bt (s.data.toList.drop pos) 0 = b.toNat := by simp [M.bt, hb]
      have hg := good_drop hb
      rw [← HG.out] at hg
      have HH : Hid _ := hg
      have HD : Hid ((b.toNat < 128 → Utf8.decode s pos = (b.toNat, 1)) ∧ (128 ≤ b.toNat → 128 ≤ (Utf8.decode s pos).1)) := by
        refine ⟨fun h => ?_, fun h => ?_⟩
        · rw [M.decode_d0]; unfold M.d0 Lib.decodeN; rw [hb0, if_pos h]
        · rw [M.decode_d0]; exact d0_wide _ (by rw [hb0]; exact h)
      clear hg hb hb0 hit
      generalize hW : wr.iterAt w.heap.size s (pos + (Utf8.decode s pos).2) = W1 at hnx hit2 HB2
      clear hW
      obtain ⟨⟨r, wd⟩, hrw⟩ : ∃ x, x = Utf8.decode s pos := ⟨_, rfl⟩
      rw [← hrw] at hnx hwd hit2 HD
      clear hrw
      simp only at hnx hwd hit2
      by_cases h128 : b.toNat < 128
      · have e1 := HD.out.1 h128
        simp only [Prod.mk.injEq] at e1
        obtain ⟨rfl, rfl⟩ := e1
        cases hl : R.letter (b.toNat : Int) with
        | true =>
          have HL : Hid (R.letter (b.toNat : Int) = true) := hl
          clear hl
          go_wp2_with (go_at_call 68; refine (letter_any _ _).mono ?_; rintro e w1 ⟨rfl, rfl⟩; rw [HL.out])
          go_roundw
          case rel => exact ⟨_, hit2, HB2, by show _ = _; rw [HH.out]; unfold R.good; rw [HL.out]; simp⟩
          case measure => rw [iterPos_of hit2, hpos0]; omega
        | false =>
          have HL : Hid (R.letter (b.toNat : Int) = false) := hl
          clear hl
          by_cases h0 : pos = 0
          · subst h0
            go_wp2_with (go_at_call 68; refine (letter_any _ _).mono ?_; rintro e w1 ⟨rfl, rfl⟩; rw [HL.out])
            go_ret
            refine ⟨L.ret_bool ?_, HB2.out⟩
            rw [← HO.out]; unfold R.named; rw [HH.out]; unfold R.good; rw [HL.out]; simp
          · cases hd : R.digit (b.toNat : Int) with
            | true =>
              have HDg : Hid (R.digit (b.toNat : Int) = true) := hd
              clear hd
              go_wp2_with (first
                | (go_at_call 68; refine (letter_any _ _).mono ?_; rintro e w1 ⟨rfl, rfl⟩; rw [HL.out])
                | (go_at_call 69; refine (digit_any _ _).mono ?_; rintro e w1 ⟨rfl, rfl⟩; rw [HDg.out]))
              go_roundw
              case rel => exact ⟨_, hit2, HB2, by show _ = _; rw [HH.out]; unfold R.good; rw [HL.out, HDg.out]; simp [h0]⟩
              case measure => rw [iterPos_of hit2, hpos0]; omega
            | false =>
              have HDg : Hid (R.digit (b.toNat : Int) = false) := hd
              clear hd
              go_wp2_with (first
                | (go_at_call 68; refine (letter_any _ _).mono ?_; rintro e w1 ⟨rfl, rfl⟩; rw [HL.out])
                | (go_at_call 69; refine (digit_any _ _).mono ?_; rintro e w1 ⟨rfl, rfl⟩; rw [HDg.out]))
              go_ret
              refine ⟨L.ret_bool ?_, HB2.out⟩
              rw [← HO.out]; unfold R.named; rw [HH.out]; unfold R.good; rw [HL.out, HDg.out]; simp
      · have e1 := HD.out.2 (by omega)
        simp only at e1
        have HL : Hid (R.letter (r : Int) = false) := by show _ = _; unfold R.letter; rw [Bool.eq_false_iff]; simp; omega
        have HDg : Hid (R.digit (r : Int) = false) := by show _ = _; unfold R.digit; rw [Bool.eq_false_iff]; simp; omega
        have HN : Hid (false = o) := by show _ = _; rw [← HO.out]; unfold R.named; rw [HH.out, good_no (by omega)]; simp
        by_cases h0 : pos = 0
        · subst h0
          go_wp2_with (go_at_call 68; refine (letter_any _ _).mono ?_; rintro e w1 ⟨rfl, rfl⟩; rw [HL.out])
          go_ret
          exact ⟨L.ret_bool HN.out, HB2.out⟩
        · go_wp2_with (first
            | (go_at_call 68; refine (letter_any _ _).mono ?_; rintro e w1 ⟨rfl, rfl⟩; rw [HL.out])
            | (go_at_call 69; refine (digit_any _ _).mono ?_; rintro e w1 ⟨rfl, rfl⟩; rw [HDg.out]))
          go_ret
          exact ⟨L.ret_bool HN.out, HB2.out⟩
    · have hnx : ∀ ty, (Instr.next (.pointer (some ⟨w.heap.size, 0, none⟩)) true ty).run Tryz.prog wr = _ := fun ty => Lib.run_next_end_at wr w.heap.size s pos ty hit hp
      have HE : Hid (R.goodFrom 0 s.data.toList = true) := by
        show _ = _
        rw [HG.out, List.drop_eq_nil_of_le (by have := HLn.out; omega)]; rfl
      by_cases h0 : s.size = 0
      · have hs : s = ⟨#[]⟩ := by
          have : s.data = #[] := Array.eq_empty_of_size_eq_zero h0
          cases s; simp_all
        subst hs
        go_wp2
        go_ret
        refine ⟨L.ret_bool ?_, HB.out⟩
        rw [← HO.out]; rfl
      · have hemp : s.toList.isEmpty = false := by
          rw [← decide_eq_emptyBytes]
          exact decide_eq_false (fun h => h0 (by rw [h]; rfl))
        go_wp2
        go_ret
        refine ⟨L.ret_bool ?_, HB.out⟩
        rw [← HO.out]; unfold R.named; rw [HE.out, Bool.eq_iff_iff]; simp; omega

set_option maxHeartbeats 1000000 in
theorem passes_any (s : ByteArray) (w : World) :
    Calls Tryz.prog 50 #[.string s] w fun e w' => e = .returned (.bool (R.passes s)) ∧ w' = w := by
  unfold R.passes
  go_enter Tryz.func50, Tryz.ntmps50
  go_wp2
  all_goals go_ret
  all_goals refine ⟨L.ret_bool ?_, rfl⟩
  all_goals simp_all

end Go.Proofs.YtchkcjaahjhbcabGreatDoor

/-
  What sets.Wrong and the document's Wrong answer of any spans.
-/
namespace Go.Proofs.YtchkcjaahjhbcabGreatDoor
open Go.RowKit

set_option maxHeartbeats 400000 in
theorem outside_any (w : World) (x : S.Sp) :
    Calls Tryz.prog 70 #[.agg #[.int .i32 x.1, .int .i32 x.2]] w fun e w' => e = .returned (.bool (S.bad x)) ∧ Below w.heap.size w w' := by
  obtain ⟨x1, x2⟩ := x
  unfold S.bad
  by_cases h1 : x1 < 0
  · go_enter Tryz.func70, Tryz.ntmps70
    go_wp2
    go_ret
    exact ⟨by simp [h1], (Below.refl _ w).alloc (Nat.le_refl _) _⟩
  · by_cases h2 : 1114111 < x2
    · go_enter Tryz.func70, Tryz.ntmps70
      go_wp2
      go_ret
      exact ⟨by simp, (Below.refl _ w).alloc (Nat.le_refl _) _⟩
    · by_cases h3 : x2 < x1
      · go_enter Tryz.func70, Tryz.ntmps70
        go_wp2
        go_ret
        exact ⟨by simp, (Below.refl _ w).alloc (Nat.le_refl _) _⟩
      · go_enter Tryz.func70, Tryz.ntmps70
        go_wp2
        go_ret
        exact ⟨by simp [h1, h2, h3], (Below.refl _ w).alloc (Nat.le_refl _) _⟩

theorem wgo_drop {l : List S.Sp} {k : Nat} {x : S.Sp} {b : Int} (hx : l[k]? = some x) : S.wgo b (l.drop k) = if S.bad x = true then 3 else if x.1 < b then 2 else S.wgo (x.2 + 2) (l.drop (k + 1)) := by
  have hlt := (List.getElem?_eq_some_iff.1 hx).1
  rw [List.drop_eq_getElem_cons hlt]
  have : l[k] = x := by rw [List.getElem?_eq_getElem hlt] at hx; exact Option.some.inj hx
  rw [this]; rfl

set_option maxHeartbeats 1000000 in
theorem wrong_any (w : World) (v : Value) (l : List S.Sp) (R : S.Rd w v l) (hf : S.Fit l) :
    Calls Tryz.prog 49 #[v] w fun e w' => e = .returned (.int .i64 (S.wrongE l)) ∧ Below w.heap.size w w' := by
  obtain ⟨ao, cap, rfl, hn, hc⟩ := R
  unfold S.wrongE
  by_cases hbig : 200 < l.length
  · rw [if_pos hbig]
    go_enter Tryz.func49, Tryz.ntmps49
    go_wp2
    go_ret
    exact ⟨rfl, Below.refl _ w⟩
  · rw [if_neg hbig]
    go_enter Tryz.func49, Tryz.ntmps49
    go_wp2
    go_loopw [10] (fun i wr => ∃ k : Nat, k ≤ l.length ∧ i = .int .i64 k ∧ Hid (∃ b, S.wgo 0 l = S.wgo b (l.drop k) ∧ (k = 0 → b = 0) ∧ ∀ p, 0 < k → l[k-1]? = some p → b = p.2 + 2 ∧ p.2 ≤ 1114111) ∧ Hid (Below w.heap.size w wr)) (fun i _ => l.length - (intOf i).toNat)
    case atStart => exact ⟨0, Nat.zero_le _, rfl, ⟨0, by simp, fun _ => rfl, fun p h => absurd h (Nat.lt_irrefl _)⟩, Below.refl _ w⟩
    case round =>
      obtain ⟨k, hk, rfl, HW, HB⟩ := hrel
      by_cases hlt : k < l.length
      · obtain ⟨b, off, rfl, hcell⟩ := hc (by intro h; subst h; simp at hlt)
        obtain ⟨x, hx⟩ : ∃ x, l[k]? = some x := ⟨l[k], by simp [hlt]⟩
        have c0 := hcell k x hx
        have hb := L.block_lt c0.1
        have cc : ∀ o, wr.cell? ⟨b, o, none⟩ = w.cell? ⟨b, o, none⟩ := fun o => HB.out.cell (p := ⟨b, o, none⟩) hb
        have c1 := c0.1
        have c2 := c0.2
        rw [← cc] at c1 c2
        have HX : Hid (l[k]? = some x) := hx
        have fx := hf.at hx
        have hsz := HB.out.size
        obtain ⟨x1, x2⟩ := x
        simp only at c1 c2 fx
        clear c0 hx
        cases hbad : S.bad (x1, x2) with
        | true =>
          have HR : Hid (S.bad (x1, x2) = true) := hbad
          clear hbad cc hcell hc
          go_wp2_with (go_at_call 70; go_must (refine (outside_any _ (x1, x2)).mono ?_; rintro e w1 ⟨rfl, HB1⟩; rw [HR.out]))
          go_ret
          obtain ⟨bb, he, _⟩ := HW.out
          refine ⟨?_, ?_⟩
          · rw [he, wgo_drop HX.out, HR.out]; rfl
          · exact (HB.out.alloc hsz _).trans (HB1.mono (by simp; omega))
        | false =>
          have HR : Hid (S.bad (x1, x2) = false) := hbad
          have hok := S.bad_false.1 hbad
          simp only at hok
          clear hbad
          cases k with
          | zero =>
            clear cc hcell hc
            simp only [Nat.zero_mul, Nat.add_zero] at c1 c2
            go_wp2_with (go_at_call 70; go_must (refine (outside_any _ (x1, x2)).mono ?_; rintro e w1 ⟨rfl, HB1⟩; rw [HR.out]))
            obtain ⟨⟨d1, d2⟩, _, hs1, hb1⟩ := S.boxed HB1
            have HB2 : Hid (Below w.heap.size w w1) := HB.out.trans (hb1.mono hsz)
            clear HB1 hb1
            go_quiet (fail)
            go_wp2
            go_roundw
            case rel =>
              obtain ⟨bb, he, h0, _⟩ := HW.out
              refine ⟨1, by omega, by go_num, ⟨x2 + 2, ?_, fun h => by omega, fun p _ hp => ?_⟩, below_drewN HB2.out _⟩
              · rw [he, wgo_drop HX.out, HR.out, h0 trivial, if_neg (by simp), if_neg (by simp; omega)]
              · have h1 := HX.out
                rw [hp] at h1
                cases h1
                exact ⟨rfl, by omega⟩
            case measure => simp [intOf]; omega
          | succ m =>
            obtain ⟨p, hp⟩ : ∃ p, l[m]? = some p := ⟨l[m]'(by omega), by simp [show m < l.length by omega]⟩
            have c3 := (hcell m p hp).2
            rw [← cc] at c3
            have fp := hf.at hp
            have HP : Hid (l[m]? = some p) := hp
            obtain ⟨p1, p2⟩ := p
            simp only at c3 fp
            clear cc hcell hc hp
            go_wp2_with (go_at_call 70; go_must (refine (outside_any _ (x1, x2)).mono ?_; rintro e w1 ⟨rfl, HB1⟩; rw [HR.out]))
            obtain ⟨⟨d1, d2⟩, hold, hs1, hb1⟩ := S.boxed HB1
            replace c3 := hold _ _ _ c3
            have HB2 : Hid (Below w.heap.size w w1) := HB.out.trans (hb1.mono hsz)
            obtain ⟨bb, he, _, hpp⟩ := HW.out
            obtain ⟨rfl, hp2⟩ := hpp _ (Nat.succ_pos _) HP.out
            simp only at hp2
            have HE : Hid (S.wgo 0 l = S.wgo (p2 + 2) (l.drop (m + 1))) := he
            clear HB1 hb1 hold he hpp HW
            by_cases hlow : x1 < p2 + 2
            · go_quiet (fail)
              go_wp2
              go_ret
              refine ⟨?_, below_drewN HB2.out _⟩
              rw [HE.out, wgo_drop HX.out, HR.out, if_neg (by simp), if_pos hlow]; rfl
            · go_quiet (fail)
              go_wp2
              go_roundw
              case rel =>
                refine ⟨m + 1 + 1, by omega, by go_num, ⟨x2 + 2, ?_, fun h => by omega, fun p _ hp => ?_⟩, below_drewN HB2.out _⟩
                · rw [HE.out, wgo_drop HX.out, HR.out, if_neg (by simp), if_neg hlow]
                · have h1 := HX.out
                  have hp : l[m + 1]? = some p := hp
                  rw [hp] at h1
                  cases h1
                  exact ⟨rfl, by omega⟩
              case measure => simp [intOf]; omega
      · go_wp2
        go_ret
        refine ⟨?_, HB.out⟩
        obtain ⟨b, he, _⟩ := HW.out
        rw [he, List.drop_eq_nil_of_le (by omega)]
        rfl

end Go.Proofs.YtchkcjaahjhbcabGreatDoor
