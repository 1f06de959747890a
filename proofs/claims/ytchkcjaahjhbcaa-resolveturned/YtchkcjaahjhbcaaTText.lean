/-
  Sets in texts, at the level of bytes; what is read of texts that are put together of what Print writes.
-/
import Derived.Test.YtchkcjaahjhbcaaTBack
namespace Go.Proofs.Ytchkcjaahjhbcaa.T
open S (Sp)

/-- the bytes of runes -/
def bytesR (l : List Int) : List UInt8 := l.flatMap M.enc
theorem bytesR_append (l m : List Int) : bytesR (l ++ m) = bytesR l ++ bytesR m := by simp [bytesR]
theorem bytesR_cons (r : Int) (l : List Int) : bytesR (r :: l) = M.enc r ++ bytesR l := rfl
def rightL (l : List Int) : Prop := ∀ r ∈ l, M.right r = true

theorem right_nat {r : Int} (h : M.right r = true) : ((r.toNat : Nat) : Int) = r := by
  unfold M.right at h
  have := of_decide_eq_true h
  omega
theorem rn_bytes {l : List Int} (h : rightL l) : M.rn ⟨(bytesR l).toArray⟩ = l := by
  have e : bytesR l = (l.map Int.toNat).flatMap fun r : Nat => M.enc (r : Int) := by
    unfold bytesR
    induction l with
    | nil => rfl
    | cons x l ih =>
      simp only [List.flatMap_cons, List.map_cons]
      rw [ih fun r hr => h r (List.mem_cons_of_mem _ hr), right_nat (h x List.mem_cons_self)]
  have hr : ∀ r ∈ l.map Int.toNat, M.right ((r : Nat) : Int) = true := fun r hr => by
    obtain ⟨x, hx, rfl⟩ := List.mem_map.1 hr
    rw [right_nat (h x hx)]; exact h x hx
  have h1 := (M.ru_enc _ hr).1
  rw [M.rn_ru]
  show (M.ru (bytesR l)).map (fun x => ((x.1 : Nat) : Int)) = l
  rw [e]
  have h2 := congrArg (List.map fun r : Nat => (r : Int)) h1
  rw [List.map_map] at h2
  rw [show ((fun r : Nat => (r : Int)) ∘ fun x : Nat × Nat => x.1) = (fun x : Nat × Nat => ((x.1 : Nat) : Int)) from rfl] at h2
  rw [h2, List.map_map]
  clear h1 h2 hr e
  induction l with
  | nil => rfl
  | cons x l ih =>
    rw [List.map_cons, ih fun r hr => h r (List.mem_cons_of_mem _ hr)]
    congr 1
    exact right_nat (h x List.mem_cons_self)

theorem enc_ascii {b : UInt8} (h : b.toNat < 128) : M.enc (b.toNat : Int) = [b] := by
  rw [M.enc_eq b.toNat (by unfold M.right; simp; omega), if_pos h]
  simp
theorem right_ascii {r : Int} (h0 : 0 ≤ r) (h : r < 128) : M.right r = true := by unfold M.right; simp; omega

theorem dig_small {d : Nat} (h : d < 16) : (dig d).toNat < 128 := by
  have : ∀ d : Fin 16, (dig d.1).toNat < 128 := by decide
  exact this ⟨d, h⟩
theorem hexL_small' (n : Nat) : ∀ b ∈ hexL n, b.toNat < 128 := by
  induction n using Nat.strongRecOn with
  | ind n ih =>
    intro b hb
    by_cases h : n < 16
    · rw [hexL_small h, List.mem_singleton] at hb; subst hb; exact dig_small h
    · rw [hexL_big h, List.mem_append, List.mem_singleton] at hb
      rcases hb with hb | hb
      · exact ih _ (by omega) b hb
      · subst hb; exact dig_small (by omega)
theorem bytesR_hex (n : Nat) : bytesR (hexR n) = hexL n := by
  unfold hexR
  have h := hexL_small' n
  generalize hexL n = l at h
  induction l with
  | nil => rfl
  | cons b l ih =>
    rw [List.map_cons, bytesR_cons, enc_ascii (h b List.mem_cons_self), ih fun c hc => h c (List.mem_cons_of_mem _ hc)]; rfl
theorem right_hex (n : Nat) : rightL (hexR n) := fun r hr => by
  unfold hexR at hr
  obtain ⟨b, hb, rfl⟩ := List.mem_map.1 hr
  exact right_ascii (by omega) (by have := hexL_small' n b hb; omega)

theorem rightL_app {l m : List Int} (h : rightL l) (h' : rightL m) : rightL (l ++ m) := fun r hr => by
  rcases List.mem_append.1 hr with hr | hr
  · exact h r hr
  · exact h' r hr
theorem plain_right' {r : Int} (h : plain r = true) : M.right r = true := by
  unfold plain alnum at h
  simp only [Bool.or_eq_true, Bool.and_eq_true, decide_eq_true_eq] at h
  rcases h with h | h
  · exact right_ascii (by omega) (by omega)
  · exact h.1

theorem quo_bytes (r : Int) : bytesR (quoR r) = quo r ∧ rightL (quoR r) := by
  unfold quoR quo
  by_cases h : plain r = true
  · rw [if_pos h, if_pos h]
    exact ⟨by simp [bytesR], fun x hx => by rw [List.mem_singleton] at hx; subst hx; exact plain_right' h⟩
  · rw [if_neg h, if_neg h, bytesR_append, bytesR_append, bytesR_hex]
    refine ⟨?_, rightL_app (rightL_app (by unfold rightL; decide) (right_hex _)) (by unfold rightL; decide)⟩
    congr 1
theorem one_bytes (x : Sp) : bytesR (oneR x) = one x ∧ rightL (oneR x) := by
  unfold oneR one
  rw [bytesR_append, (quo_bytes x.1).1]
  by_cases h : x.1 < x.2
  · rw [if_pos h, if_pos h, bytesR_append, (quo_bytes x.2).1]
    exact ⟨by congr 1, rightL_app (quo_bytes x.1).2 (rightL_app (by unfold rightL; decide) (quo_bytes x.2).2)⟩
  · rw [if_neg h, if_neg h]
    exact ⟨rfl, rightL_app (quo_bytes x.1).2 (fun r hr => by cases hr)⟩
theorem inner_bytes (s : List Sp) : bytesR (innerR s) = inner s ∧ rightL (innerR s) := by
  induction s with
  | nil => exact ⟨rfl, fun r hr => by cases hr⟩
  | cons x s ih =>
    have e1 : innerR (x :: s) = oneR x ++ innerR s := rfl
    have e2 : inner (x :: s) = one x ++ inner s := rfl
    rw [e1, e2, bytesR_append, (one_bytes x).1, ih.1]
    exact ⟨rfl, rightL_app (one_bytes x).2 ih.2⟩
/-- what Print writes, in runes -/
theorem prt_bytes (s : List Sp) : bytesR (prtR s) = prt s ∧ rightL (prtR s) := by
  unfold prtR prt
  rw [bytesR_append, bytesR_append, (inner_bytes s).1]
  exact ⟨by congr 1, rightL_app (rightL_app (by unfold rightL; decide) (inner_bytes s).2) (by unfold rightL; decide)⟩
theorem rn_prt (s : List Sp) : M.rn ⟨(prt s).toArray⟩ = prtR s := by
  rw [← (prt_bytes s).1, rn_bytes (prt_bytes s).2]

/-! what is read of texts put together -/

theorem made_nf {P : Int → Bool} (h : (S.nf P).length ≤ 200) (p : Nat) : made P p = .ok (S.nf P) p := by unfold made; rw [if_neg (by omega)]

theorem prtR_head (s : List Sp) : ∃ a t, prtR s = 91 :: a :: t ∧ a ≠ 58 ∧ a ≠ 94 := by
  obtain ⟨b, u, hb, hfb⟩ := innerR_head (s := s) (r := [])
  have hn := head_not hfb
  exact ⟨b, u, by show 91 :: (innerR s ++ [93]) = _; rw [hb], hn.2.2.1, hn.2.1⟩

theorem part_set {l rest : List Int} {n p : Nat} {acc s : List Sp} (h : l.drop p = prtR s ++ rest) (hn : S.Nf 0 s) (hs : s.length ≤ 200) (hlen : s.length ≤ l.length) :
    part (setN (n + 1) l) l acc p = made (S.orP acc s) (p + (prtR s).length) := by
  obtain ⟨a, t, ha, h58, _⟩ := prtR_head s
  have h' : l.drop p = 91 :: (a :: (t ++ rest)) := by rw [h, ha]; rfl
  have h1 := sits_head h'
  have h2 := sits_head (sits_tail h')
  unfold part
  rw [h1, if_neg (by decide), if_neg (by decide), h2, if_neg (fun e => h58 e.2), if_pos rfl, set_prt h hn hs hlen]
theorem part_and {l rest : List Int} {n p : Nat} {acc s : List Sp} (h : l.drop p = 38 :: (prtR s ++ rest)) (hn : S.Nf 0 s) (hs : s.length ≤ 200) (hlen : s.length ≤ l.length) :
    part (setN (n + 1) l) l acc p = made (S.andP acc s) (p + 1 + (prtR s).length) := by
  have h1 := sits_head h
  have t := sits_tail h
  obtain ⟨a, u, ha, _⟩ := prtR_head s
  have h91 := sits_head (a := 91) (r := a :: (u ++ rest)) (by rw [t, ha]; rfl)
  have hlt := sits_lt h
  unfold part
  rw [h1, if_pos rfl, skipW_here (by omega) (by decide) (by rw [h91]; decide), set_prt t hn hs hlen]
theorem part_min {l rest bs : List Int} {n p : Nat} {acc s : List Sp} (h : l.drop p = 45 :: (bs ++ (prtR s ++ rest))) (hbs : ∀ x ∈ bs, blank x = true) (hn : S.Nf 0 s) (hs : s.length ≤ 200) (hlen : s.length ≤ l.length) :
    part (setN (n + 1) l) l acc p = made (S.minP acc s) (p + 1 + bs.length + (prtR s).length) := by
  have h1 := sits_head h
  have t := sits_tail h
  have t2 := sits_next t
  obtain ⟨a, u, ha, _⟩ := prtR_head s
  have h91 := sits_head (a := 91) (r := a :: (u ++ rest)) (by rw [t2, ha]; rfl)
  have hlt := sits_lt h
  unfold part
  rw [h1, if_neg (by decide), if_pos rfl, skipW_sits t (by omega) hbs (by decide) (by rw [h91]; decide), set_prt t2 hn hs hlen]

theorem nf_or_nil {a : List Sp} (h : S.Nf 0 a) : S.nf (S.orP [] a) = a := S.nf_eq (is_or h fun r => by rw [S.memb_nil, Bool.false_or])

/-- one step of the loop -/
theorem loop_part {l : List Int} {sub : Nat → Out (List Sp)} {f p q r : Nat} {acc t : List Sp} (h93 : see l p ≠ 93) (hp : part sub l acc p = .ok t q) (hr : skipW blank l q = r) : loop (f + 1) sub l acc p = loop f sub l t r := by
  rw [loop, if_neg h93, hp]; simp only; rw [hr]
theorem loop_end {l : List Int} {sub : Nat → Out (List Sp)} {f p : Nat} {acc : List Sp} (h : see l p = 93) : loop (f + 1) sub l acc p = .ok acc (p + 1) := by
  rw [loop, if_pos h]

theorem nb91 : blank 91 = false := by decide
theorem nb93 : blank 93 = false := by decide
theorem nb38 : blank 38 = false := by decide
theorem nb45 : blank 45 = false := by decide

/-- a whole text, a set alone in it -/
theorem read_set {l : List Int} {s : List Sp} {q : Nat} (hl : l.length ≤ 4000) (h91 : see l 0 = 91) (h : setN 20 l 0 = .ok s q) (hq : q = l.length) : read l = .ok s q := by
  unfold read
  rw [if_neg (by omega)]
  unfold whole
  rw [skipW_here (by omega) (by decide) (by rw [h91]; decide), h]
  simp only
  subst hq
  rw [skipW_here (Nat.le_refl _) (by decide) (by rw [see_ge (Nat.le_refl _)]; decide), see_ge (Nat.le_refl _), if_pos rfl]

theorem lens {a b : List Sp} (ha : S.Nf 0 a) (hb : S.Nf 0 b) (la : a.length ≤ 50) (lb : b.length ≤ 50) : (prtR a).length ≤ 1052 ∧ (prtR b).length ≤ 1052 ∧ a.length ≤ (prtR a).length ∧ b.length ≤ (prtR b).length := by
  have h1 := prtR_len ha
  have h2 := prtR_len hb
  have h3 := prt_long a
  have h4 := prt_long b
  refine ⟨by omega, by omega, ?_, ?_⟩ <;> simp [prtR] <;> omega

/-- two sets, one behind the other -/
theorem read_or {a b : List Sp} (ha : S.Nf 0 a) (hb : S.Nf 0 b) (la : a.length ≤ 50) (lb : b.length ≤ 50) (hn : (S.nf (S.orP a b)).length ≤ 200) : ∃ q, read ([91] ++ prtR a ++ prtR b ++ [93]) = .ok (S.nf (S.orP a b)) q := by
  obtain ⟨l1, l2, l3, l4⟩ := lens ha hb la lb
  generalize hl : [91] ++ prtR a ++ prtR b ++ [93] = l
  have hlen : l.length = (prtR a).length + (prtR b).length + 2 := by rw [← hl]; simp; omega
  have d0 : l.drop 0 = 91 :: (prtR a ++ (prtR b ++ [93])) := by rw [← hl]; simp
  have d1 := sits_tail d0
  have d2 := sits_next d1
  have d3 := sits_next d2
  obtain ⟨xa, ta, ea, na, na'⟩ := prtR_head a
  obtain ⟨xb, tb, eb, nb, nb'⟩ := prtR_head b
  have s0 := sits_head d0
  have s1 := sits_head (a := 91) (r := xa :: (ta ++ (prtR b ++ [93]))) (by rw [d1, ea]; rfl)
  have s2 := sits_head (a := 91) (r := xb :: (tb ++ [93])) (by rw [d2, eb]; rfl)
  have s3 := sits_head d3
  have p1 : part (setN 19 l) l [] (0 + 1) = .ok a (0 + 1 + (prtR a).length) := by
    rw [part_set d1 ha (by omega) (by omega), made_nf (by rw [nf_or_nil ha]; omega), nf_or_nil ha]
  have p2 : part (setN 19 l) l a (0 + 1 + (prtR a).length) = .ok (S.nf (S.orP a b)) (0 + 1 + (prtR a).length + (prtR b).length) := by
    rw [part_set d2 hb (by omega) (by omega), made_nf hn]
  have hset : setN 20 l 0 = .ok (S.nf (S.orP a b)) (0 + 1 + (prtR a).length + (prtR b).length + 1) := by
    rw [setN, s0, if_neg (by decide), s1, if_neg (by decide), skipW_here (by omega) (by decide) (by rw [s1]; decide), hlen]
    rw [loop_part (by rw [s1]; decide) p1 (skipW_here (by omega) (by decide) (by rw [s2]; decide))]
    rw [show (prtR a).length + (prtR b).length + 2 = (prtR a).length + (prtR b).length + 1 + 1 from rfl, loop_part (by rw [s2]; decide) p2 (skipW_here (by omega) (by decide) (by rw [s3]; decide))]
    rw [loop_end s3]
  exact ⟨_, read_set (by omega) s0 hset (by omega)⟩

theorem read_and {a b : List Sp} (ha : S.Nf 0 a) (hb : S.Nf 0 b) (la : a.length ≤ 50) (lb : b.length ≤ 50) (hn : (S.nf (S.andP a b)).length ≤ 200) : ∃ q, read ([91] ++ prtR a ++ [38] ++ prtR b ++ [93]) = .ok (S.nf (S.andP a b)) q := by
  obtain ⟨l1, l2, l3, l4⟩ := lens ha hb la lb
  generalize hl : [91] ++ prtR a ++ [38] ++ prtR b ++ [93] = l
  have hlen : l.length = (prtR a).length + (prtR b).length + 3 := by rw [← hl]; simp; omega
  have d0 : l.drop 0 = 91 :: (prtR a ++ (38 :: (prtR b ++ [93]))) := by rw [← hl]; simp
  have d1 := sits_tail d0
  have d2 := sits_next d1
  have d3 := sits_next (sits_tail d2)
  obtain ⟨xa, ta, ea, na, na'⟩ := prtR_head a
  have s0 := sits_head d0
  have s1 := sits_head (a := 91) (r := xa :: (ta ++ (38 :: (prtR b ++ [93])))) (by rw [d1, ea]; rfl)
  have s2 := sits_head d2
  have s3 := sits_head d3
  have p1 : part (setN 19 l) l [] (0 + 1) = .ok a (0 + 1 + (prtR a).length) := by
    rw [part_set d1 ha (by omega) (by omega), made_nf (by rw [nf_or_nil ha]; omega), nf_or_nil ha]
  have p2 : part (setN 19 l) l a (0 + 1 + (prtR a).length) = .ok (S.nf (S.andP a b)) (0 + 1 + (prtR a).length + 1 + (prtR b).length) := by
    rw [part_and d2 hb (by omega) (by omega), made_nf hn]
  have hset : setN 20 l 0 = .ok (S.nf (S.andP a b)) (0 + 1 + (prtR a).length + 1 + (prtR b).length + 1) := by
    rw [setN, s0, if_neg (by decide), s1, if_neg (by decide), skipW_here (by omega) (by decide) (by rw [s1]; decide), hlen]
    rw [loop_part (by rw [s1]; decide) p1 (skipW_here (by omega) (by decide) (by rw [s2]; decide))]
    rw [show (prtR a).length + (prtR b).length + 3 = (prtR a).length + (prtR b).length + 1 + 1 + 1 from rfl, loop_part (by rw [s2]; decide) p2 (skipW_here (by omega) (by decide) (by rw [s3]; decide))]
    rw [loop_end s3]
  exact ⟨_, read_set (by omega) s0 hset (by omega)⟩

theorem read_min {a b : List Sp} (ha : S.Nf 0 a) (hb : S.Nf 0 b) (la : a.length ≤ 50) (lb : b.length ≤ 50) (hn : (S.nf (S.minP a b)).length ≤ 200) : ∃ q, read ([91] ++ prtR a ++ [32, 45, 32] ++ prtR b ++ [93]) = .ok (S.nf (S.minP a b)) q := by
  obtain ⟨l1, l2, l3, l4⟩ := lens ha hb la lb
  generalize hl : [91] ++ prtR a ++ [32, 45, 32] ++ prtR b ++ [93] = l
  have hlen : l.length = (prtR a).length + (prtR b).length + 5 := by rw [← hl]; simp; omega
  have d0 : l.drop 0 = 91 :: (prtR a ++ ([32] ++ (45 :: ([32] ++ (prtR b ++ [93]))))) := by rw [← hl]; simp
  have d1 := sits_tail d0
  have d2 := sits_next d1
  have d2' := sits_next d2
  have d3 := sits_next (sits_next (sits_tail d2'))
  obtain ⟨xa, ta, ea, na, na'⟩ := prtR_head a
  have s0 := sits_head d0
  have s1 := sits_head (a := 91) (r := xa :: (ta ++ ([32] ++ (45 :: ([32] ++ (prtR b ++ [93])))))) (by rw [d1, ea]; rfl)
  have s2 := sits_head d2'
  have s3 := sits_head d3
  have p1 : part (setN 19 l) l [] (0 + 1) = .ok a (0 + 1 + (prtR a).length) := by
    rw [part_set d1 ha (by omega) (by omega), made_nf (by rw [nf_or_nil ha]; omega), nf_or_nil ha]
  have p2 : part (setN 19 l) l a (0 + 1 + (prtR a).length + ([32] : List Int).length) = .ok (S.nf (S.minP a b)) (0 + 1 + (prtR a).length + ([32] : List Int).length + 1 + ([32] : List Int).length + (prtR b).length) := by
    rw [part_min d2' (by decide) hb (by omega) (by omega), made_nf hn]
  have hset : setN 20 l 0 = .ok (S.nf (S.minP a b)) (0 + 1 + (prtR a).length + ([32] : List Int).length + 1 + ([32] : List Int).length + (prtR b).length + 1) := by
    rw [setN, s0, if_neg (by decide), s1, if_neg (by decide), skipW_here (by omega) (by decide) (by rw [s1]; decide), hlen]
    rw [loop_part (by rw [s1]; decide) p1 (skipW_sits d2 (by omega) (by decide) (by decide) (by rw [s2]; decide))]
    rw [show (prtR a).length + (prtR b).length + 5 = (prtR a).length + (prtR b).length + 3 + 1 + 1 from rfl, loop_part (by rw [s2]; decide) p2 (skipW_here (by simp only [List.length_singleton]; omega) (by decide) (by rw [s3]; decide))]
    rw [loop_end s3]
  exact ⟨_, read_set (by omega) s0 hset (by simp only [List.length_singleton]; omega)⟩

theorem read_not {a : List Sp} (ha : S.Nf 0 a) (la : a.length ≤ 50) (hn : (S.nf (S.notP a)).length ≤ 200) : ∃ q, read ([91, 94] ++ prtR a ++ [93]) = .ok (S.nf (S.notP a)) q := by
  obtain ⟨l1, _, l3, _⟩ := lens ha ha la la
  generalize hl : [91, 94] ++ prtR a ++ [93] = l
  have hlen : l.length = (prtR a).length + 3 := by rw [← hl]; simp
  have d0 : l.drop 0 = 91 :: 94 :: (prtR a ++ [93]) := by rw [← hl]; simp
  have d1 := sits_tail d0
  have d2 := sits_tail d1
  have d3 := sits_next d2
  obtain ⟨xa, ta, ea, na, na'⟩ := prtR_head a
  have s0 := sits_head d0
  have s1 := sits_head d1
  have s2 := sits_head (a := 91) (r := xa :: (ta ++ [93])) (by rw [d2, ea]; rfl)
  have s3 := sits_head d3
  have p1 : part (setN 19 l) l [] (0 + 2) = .ok a (0 + 2 + (prtR a).length) := by
    rw [part_set d2 ha (by omega) (by omega), made_nf (by rw [nf_or_nil ha]; omega), nf_or_nil ha]
  have hset : setN 20 l 0 = .ok (S.nf (S.notP a)) (0 + 2 + (prtR a).length + 1) := by
    rw [setN, s0, if_neg (by decide), s1, if_pos rfl, skipW_here (by omega) (by decide) (by rw [s2]; decide), hlen]
    rw [loop_part (by rw [s2]; decide) p1 (skipW_here (by omega) (by decide) (by rw [s3]; decide))]
    rw [show (prtR a).length + 3 = (prtR a).length + 1 + 1 + 1 from rfl, loop_end s3]
    simp only
    rw [made_nf hn]
  exact ⟨_, read_set (by omega) s0 hset (by omega)⟩

theorem any_not (a : List Sp) : S.minP [(0, 1114111)] a = S.notP a := by
  funext r
  have : S.inR r = S.memb [(0, 1114111)] r := by
    apply S.bool_eq
    rw [S.memb_iff]
    simp [S.inR]
  unfold S.minP S.notP
  rw [← this]
  cases S.inR r <;> simp

theorem read_any_minus {a : List Sp} (ha : S.Nf 0 a) (la : a.length ≤ 50) (hn : (S.nf (S.notP a)).length ≤ 200) : ∃ q, read ([32, 91, 91, 58, 97, 110, 121, 58, 93, 32, 45] ++ prtR a ++ [32, 93, 32]) = .ok (S.nf (S.notP a)) q := by
  obtain ⟨l1, _, l3, _⟩ := lens ha ha la la
  generalize hl : [32, 91, 91, 58, 97, 110, 121, 58, 93, 32, 45] ++ prtR a ++ [32, 93, 32] = l
  have hlen : l.length = (prtR a).length + 14 := by rw [← hl]; simp
  have d0 : l.drop 0 = [32] ++ (91 :: 91 :: 58 :: ([97, 110, 121] ++ (58 :: 93 :: ([32] ++ (45 :: ([] ++ (prtR a ++ ([32] ++ (93 :: [32])))))))))  := by rw [← hl]; simp
  have d1 := sits_next d0
  have d2 := sits_tail d1
  have d3 := sits_tail d2
  have d4 := sits_tail d3
  have d7 := sits_next d4
  have d8 := sits_tail d7
  have d9 := sits_tail d8
  have d10 := sits_next d9
  have d11 := sits_next (sits_tail d10)
  have e1 := sits_next d11
  have e2 := sits_next e1
  have e3 := sits_tail e2
  have s1 := sits_head d1
  have s2 := sits_head d2
  have s3 := sits_head d3
  have s7 := sits_head d7
  have s8 := sits_head d8
  have s10 := sits_head d10
  have se2 := sits_head e2
  simp only [List.length_cons, List.length_nil, Nat.zero_add] at *
  have hsk : skipW ordy l (1 + 1 + 1 + 1) = 1 + 1 + 1 + 1 + 3 := skipW_sits d4 (by omega) (by decide) (by decide) (by show ordy (see l (1 + 1 + 1 + 1 + 3)) = false; rw [s7]; decide)
  have hcut : cut l (1 + 1 + 1 + 1) (1 + 1 + 1 + 1 + 3) = [97, 110, 121] := by
    unfold cut
    rw [d4]; rfl
  have hany : S.Nf 0 [(0, 1114111)] := ⟨by decide, by decide, by decide, trivial⟩
  have p1 : part (setN 19 l) l [] (1 + 1) = .ok [(0, 1114111)] (1 + 1 + 1 + 1 + 3 + 1 + 1) := by
    have hcls : cls l (1 + 1) = .ok [(0, 1114111)] (1 + 1 + 1 + 1 + 3 + 1 + 1) := by
      unfold cls
      rw [hsk, hcut]
      simp only [show classOf [97, 110, 121] = some [(0, 1114111)] from by decide]
      rw [s7, if_neg (by decide), s8, if_neg (by decide)]
    unfold part
    rw [s2, if_neg (by decide), if_neg (by decide), s3, if_pos ⟨rfl, rfl⟩, hcls]
    simp only
    rw [made_nf (by rw [nf_or_nil hany]; decide), nf_or_nil hany]
  have p2 : part (setN 19 l) l [(0, 1114111)] (1 + 1 + 1 + 1 + 3 + 1 + 1 + 1) = .ok (S.nf (S.notP a)) (1 + 1 + 1 + 1 + 3 + 1 + 1 + 1 + 1 + 0 + (prtR a).length) := by
    rw [part_min d10 (by decide) ha (by omega) (by omega), any_not, made_nf hn]; rfl
  have hset : setN 20 l 1 = .ok (S.nf (S.notP a)) (1 + 1 + 1 + 1 + 3 + 1 + 1 + 1 + 1 + 0 + (prtR a).length + 1 + 1) := by
    rw [setN, s1, if_neg (by decide), s2, if_neg (by decide), skipW_here (by omega) (by decide) (by rw [s2]; decide), hlen]
    rw [loop_part (by rw [s2]; decide) p1 (skipW_sits d9 (by omega) (by decide) (by decide) (by show blank (see l (1 + 1 + 1 + 1 + 3 + 1 + 1 + 1)) = false; rw [s10]; decide))]
    simp only [List.length_cons, List.length_nil, Nat.zero_add]
    rw [show (prtR a).length + 14 = (prtR a).length + 12 + 1 + 1 from rfl, loop_part (by rw [s10]; decide) p2 (skipW_sits e1 (by omega) (by decide) (by decide) (by show blank (see l (1 + 1 + 1 + 1 + 3 + 1 + 1 + 1 + 1 + 0 + (prtR a).length + 1)) = false; rw [se2]; decide))]
    simp only [List.length_cons, List.length_nil, Nat.zero_add]
    rw [loop_end se2]
  refine ⟨1 + 1 + 1 + 1 + 3 + 1 + 1 + 1 + 1 + 0 + (prtR a).length + 1 + 1, ?_⟩
  unfold read
  rw [if_neg (by omega)]
  unfold whole
  rw [skipW_sits d0 (by omega) (by decide) (by decide) (by show blank (see l (0 + 1)) = false; rw [s1]; decide)]
  simp only [List.length_cons, List.length_nil, Nat.zero_add]
  rw [hset]
  simp only
  have hend : skipW blank l (1 + 1 + 1 + 1 + 3 + 1 + 1 + 1 + 1 + 0 + (prtR a).length + 1 + 1) = l.length := by
    have h := skipW_sits (f := blank) (m := [32]) (r := []) (by rw [e3]; rfl) (by omega) (by decide) (by decide) (by rw [see_ge (by simp only [List.length_singleton]; omega)]; decide)
    rw [h]; simp only [List.length_singleton]; omega
  rw [hend, see_ge (Nat.le_refl _), if_pos rfl]

/-- the closed fact: "[a-c e]" -/
theorem read_alive : read [91, 97, 45, 99, 32, 101, 93] = .ok [(97, 99), (101, 101)] 7 := by
  have h1 : S.Nf 0 [(97, 99)] := ⟨by decide, by decide, by decide, trivial⟩
  have h2 : S.Nf 0 [(97, 99), (101, 101)] := ⟨by decide, by decide, by decide, by decide, by decide, by decide, trivial⟩
  have p1 : part (setN 19 [91, 97, 45, 99, 32, 101, 93]) [91, 97, 45, 99, 32, 101, 93] [] 1 = .ok [(97, 99)] 4 := by
    unfold part
    rw [if_neg (by decide), if_neg (by decide), if_neg (by decide), if_neg (by decide), show span [91, 97, 45, 99, 32, 101, 93] 1 = .ok (97, 99) 4 from rfl]
    simp only
    rw [made_nf (by rw [nf_or_nil h1]; decide), nf_or_nil h1]
  have e2 : S.nf (S.orP [(97, 99)] [(101, 101)]) = [(97, 99), (101, 101)] := S.nf_eq (is_or h2 fun r => by rw [← S.memb_append]; rfl)
  have p2 : part (setN 19 [91, 97, 45, 99, 32, 101, 93]) [91, 97, 45, 99, 32, 101, 93] [(97, 99)] 5 = .ok [(97, 99), (101, 101)] 6 := by
    unfold part
    rw [if_neg (by decide), if_neg (by decide), if_neg (by decide), if_neg (by decide), show span [91, 97, 45, 99, 32, 101, 93] 5 = .ok (101, 101) 6 from rfl]
    simp only
    rw [made_nf (by rw [e2]; decide), e2]
  have hset : setN 20 [91, 97, 45, 99, 32, 101, 93] 0 = .ok [(97, 99), (101, 101)] 7 := by
    rw [setN, if_neg (by decide), if_neg (by decide), show skipW blank [91, 97, 45, 99, 32, 101, 93] (0 + 1) = 1 from rfl]
    rw [show ([91, 97, 45, 99, 32, 101, 93] : List Int).length + 1 = 5 + 1 + 1 + 1 from rfl, loop_part (by decide) p1 (show skipW blank [91, 97, 45, 99, 32, 101, 93] 4 = 5 from rfl), loop_part (by decide) p2 (show skipW blank [91, 97, 45, 99, 32, 101, 93] 6 = 6 from rfl), loop_end (by decide)]
  exact read_set (by decide) rfl hset rfl

end Go.Proofs.Ytchkcjaahjhbcaa.T
