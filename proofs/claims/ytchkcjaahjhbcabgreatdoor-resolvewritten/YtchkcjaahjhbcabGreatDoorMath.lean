/-
  A slice of spans that came in, as a list of pairs of numbers.
-/
import Derived.Test.YtchkcjaahjhbcabGreatDoorSLib
import Derived.Deep.SlicePairs
import Derived.Test.YtchkcjaahjhbcabGreatDoorCards
import Derived.Test.YtchkcjaahjhbcabGreatDoorTie
import Derived.WalkKit
import Derived.ProofKit
import Derived.OpenShut
import Derived.Deep.DeepHandedRow
import Derived.Lib.LaidTab
import Derived.SevenTiedAt
import Derived.Stop.LaidErr
import Derived.Laws.RangeAny
import Derived.Lib.DecodeN
namespace Go.Proofs.YtchkcjaahjhbcabGreatDoor
open Go.ChangeShapes Go.WideShapes Go.ChangeAt Go.RowKit

theorem wf_i32 {n : Int} (h : (Lit.int .i32 n).wf = true) : -2147483648 ≤ n ∧ n ≤ 2147483647 := by
  simp only [Lit.wf, Bool.and_eq_true, decide_eq_true_eq] at h
  have e1 : IntKind.i32.min = -2147483648 := by decide
  have e2 : IntKind.i32.max = 2147483647 := by decide
  rw [e1, e2] at h
  omega

set_option maxRecDepth 100000 in
theorem spans_rd {H : Type} {enc : TypeId × Value → H} {W : World} {base : Nat} {v : Value} {d : DataW H} {p : List MemPlace}
    (hv : Value.okWide Tryz.prog W .any base 31 v) (h : DataW.Trod enc Tryz.prog W 0 (fun _ => true) true 31 v d p) :
    ∃ l : List S.Sp, S.Rd W v l ∧ S.Fit l ∧ l.length + 1 ≤ Rows.uptoBulk d ∧ ∀ ao n c, v = .slice ao n c → n ≤ c := by
  obtain ⟨a0, len0, cap0, rfl⟩ := okWide_slice Tryz.underlying31 hv
  obtain ⟨fuel, hf⟩ := h
  obtain ⟨f0, f1, hu, o0, o1, t0, t1⟩ : ∃ f0 f1 : Field, Tryz.prog.underlying 97 = some (.struct #[f0, f1]) ∧ f0.offset = 0 ∧ f1.offset = 1 ∧ f0.type = 21 ∧ f1.type = 21 := ⟨_, _, Tryz.underlying97, rfl, rfl, rfl, rfl⟩
  rcases Go.Deep.open_slice_pairs Tryz.underlying31 hu (by kernel_rfl) o0 o1 (by rw [t0]; kernel_rfl) (by rw [t1]; kernel_rfl) hf with ⟨hcs, hx⟩ | ⟨a, len, cap, m, n, V0, V1, D0, D1, P0, P1, hcs, _, hl, hm, hmm, hx, hcell⟩
  · simp [Value.cells] at hcs
    obtain ⟨rfl, rfl, rfl⟩ := hcs
    exact ⟨[], S.Rd.nil W, fun x hx => by simp at hx, bulk_one _, fun ao n c h => by cases h; exact Nat.le_refl _⟩
  · simp [Value.cells] at hcs
    obtain ⟨rfl, rfl, rfl⟩ := hcs
    simp only [Prod.mk.injEq] at hx
    obtain ⟨rfl, rfl⟩ := hx
    simp only [if_true] at hmm
    subst hmm
    have each : ∀ i, i < len0 → ∃ x1 x2 : Int, V0 i = .int .i32 x1 ∧ V1 i = .int .i32 x2 ∧ -2147483648 ≤ x1 ∧ x1 ≤ 2147483647 ∧ -2147483648 ≤ x2 ∧ x2 ≤ 2147483647 := fun i hi => by
      obtain ⟨_, _, h3, h4⟩ := hcell i (by omega)
      rw [t0] at h3
      rw [t1] at h4
      obtain ⟨x1, e1, _, w1⟩ := DataW.trod_int Tryz.underlying21 h3
      obtain ⟨x2, e2, _, w2⟩ := DataW.trod_int Tryz.underlying21 h4
      have := wf_i32 w1
      have := wf_i32 w2
      exact ⟨x1, x2, by simpa using e1, by simpa using e2, by omega, by omega, by omega, by omega⟩
    let g : Nat → S.Sp := fun i => (intOf (V0 i), intOf (V1 i))
    have hg : ∀ i, i < len0 → V0 i = .int .i32 (g i).1 ∧ V1 i = .int .i32 (g i).2 ∧ -2147483648 ≤ (g i).1 ∧ (g i).1 ≤ 2147483647 ∧ -2147483648 ≤ (g i).2 ∧ (g i).2 ≤ 2147483647 := fun i hi => by
      obtain ⟨x1, x2, e1, e2, h⟩ := each i hi
      simp only [g, e1, e2, intOf]
      exact ⟨trivial, trivial, h⟩
    have hlen : ((List.range len0).map g).length = len0 := by simp
    refine ⟨(List.range len0).map g, ⟨_, m, by rw [hlen], fun h => by simp at h, fun hne => ?_⟩, fun x hx => ?_, ?_, fun ao n c h => by cases h; exact hl⟩
    · have h0 : 0 < len0 := by
        cases len0 with
        | zero => simp at hne
        | succ => omega
      obtain ⟨b, off, spot⟩ := a
      have c0 := (hcell 0 (by omega)).1
      have hsp : spot = none := by simpa [Addr.add] using World.cell?_spot c0
      subst hsp
      refine ⟨b, off, rfl, fun j x hj => ?_⟩
      have hj2 : j < len0 := by
        have := (List.getElem?_eq_some_iff.1 hj).1
        rw [hlen] at this
        exact this
      have hxj : g j = x := by
        rw [List.getElem?_map, List.getElem?_range hj2] at hj
        simpa using hj
      obtain ⟨h3, h4, _⟩ := hcell j (by omega)
      rw [L.addr_add] at h3 h4
      rw [← Nat.add_assoc] at h4
      rw [h3, h4, (hg j hj2).1, (hg j hj2).2.1, hxj]
      exact ⟨rfl, rfl⟩
    · obtain ⟨i, hi, rfl⟩ := List.mem_map.1 hx
      exact (hg i (by simpa using hi)).2.2
    · have h5 := bulk_slice (H := H) ((List.range len0).map fun i => .agg [D0 i, D1 i]) ((List.range (m - len0)).map fun j => .agg [D0 (len0 + j), D1 (len0 + j)])
      simpa using h5

end Go.Proofs.YtchkcjaahjhbcabGreatDoor

/-
  The tables of the library that the rows list: what they give, and a world that holds them.
-/
namespace Go.Proofs.YtchkcjaahjhbcabGreatDoor
open Go.ChangeShapes Go.WideShapes Go.ChangeAt Go.RowKit

theorem gTab : Tryz.prog.globalNamed "math/bits.deBruijn64tab" = some 3 := by kernel_rfl
theorem gTabType : (Tryz.prog.globals[3]?).map (·.type) = some 182 := by kernel_rfl
theorem tabCells : Tryz.prog.cellsOf 182 = 64 := by kernel_rfl
theorem byteCellsOf : Tryz.prog.cellsOf 5 = 1 := by kernel_rfl
def tab64 : List Int := [0, 1, 56, 2, 57, 49, 28, 3, 61, 58, 42, 50, 38, 29, 17, 4, 62, 47, 59, 36, 45, 43, 51, 22, 53, 39, 33, 30, 24, 18, 12, 5, 63, 55, 48, 27, 60, 41, 37, 16, 46, 35, 44, 21, 52, 32, 23, 11, 54, 26, 40, 15, 34, 20, 31, 10, 25, 14, 19, 9, 13, 8, 7, 6]

/-- the table's cells, where it is the second one listed -/
theorem tab_of {W : World} {d : DataW Unit} {rest : List (String × DataW Unit)} (h : laidMet Tryz.prog (("math/bits.deBruijn32tab", d) :: ("math/bits.deBruijn64tab", Rows.laid_math_bits_deBruijn64tab) :: rest) W) : Lib.TabIs Tryz.prog W "math/bits.deBruijn64tab" .u8 tab64 :=
  Lib.tabIs_of_head (rest := rest) gTab gTabType Tryz.underlying182 Tryz.underlying5 byteCellsOf tabCells h.tail

def pow10Cells : Array Value := #[.int .u64 1, .int .u64 10, .int .u64 100, .int .u64 1000, .int .u64 10000, .int .u64 100000, .int .u64 1000000, .int .u64 10000000, .int .u64 100000000, .int .u64 1000000000, .int .u64 10000000000, .int .u64 100000000000, .int .u64 1000000000000, .int .u64 10000000000000, .int .u64 100000000000000, .int .u64 1000000000000000, .int .u64 10000000000000000, .int .u64 100000000000000000, .int .u64 1000000000000000000, .int .u64 10000000000000000000]
def tab32Cells : Array Value := #[.int .u8 0, .int .u8 1, .int .u8 28, .int .u8 2, .int .u8 29, .int .u8 14, .int .u8 24, .int .u8 3, .int .u8 30, .int .u8 22, .int .u8 20, .int .u8 15, .int .u8 25, .int .u8 17, .int .u8 4, .int .u8 8, .int .u8 31, .int .u8 27, .int .u8 13, .int .u8 23, .int .u8 21, .int .u8 19, .int .u8 16, .int .u8 7, .int .u8 26, .int .u8 12, .int .u8 18, .int .u8 6, .int .u8 11, .int .u8 5, .int .u8 10, .int .u8 9]
def tab64Cells : Array Value := #[.int .u8 0, .int .u8 1, .int .u8 56, .int .u8 2, .int .u8 57, .int .u8 49, .int .u8 28, .int .u8 3, .int .u8 61, .int .u8 58, .int .u8 42, .int .u8 50, .int .u8 38, .int .u8 29, .int .u8 17, .int .u8 4, .int .u8 62, .int .u8 47, .int .u8 59, .int .u8 36, .int .u8 45, .int .u8 43, .int .u8 51, .int .u8 22, .int .u8 53, .int .u8 39, .int .u8 33, .int .u8 30, .int .u8 24, .int .u8 18, .int .u8 12, .int .u8 5, .int .u8 63, .int .u8 55, .int .u8 48, .int .u8 27, .int .u8 60, .int .u8 41, .int .u8 37, .int .u8 16, .int .u8 46, .int .u8 35, .int .u8 44, .int .u8 21, .int .u8 52, .int .u8 32, .int .u8 23, .int .u8 11, .int .u8 54, .int .u8 26, .int .u8 40, .int .u8 15, .int .u8 34, .int .u8 20, .int .u8 31, .int .u8 10, .int .u8 25, .int .u8 14, .int .u8 19, .int .u8 9, .int .u8 13, .int .u8 8, .int .u8 7, .int .u8 6]

/-- a block of cells, laid anew -/
def relay (cs : Array Value) : Obj → Obj
  | .cells _ t frozen => .cells cs t frozen
  | o => o

end Go.Proofs.YtchkcjaahjhbcabGreatDoor

/-
  Each property of numbers in range has its set; and what union, meeting, turning over and taking away make.
-/
namespace Go.Proofs.YtchkcjaahjhbcabGreatDoor.S

theorem exists_upto (P : Int → Bool) (n : Nat) (hn : n ≤ 1114112) : ∃ s, Nf 0 s ∧ (∀ q, memb s q = (decide (0 ≤ q) && decide (q < n) && P q)) := by
  induction n with
  | zero => exact ⟨[], trivial, fun q => by
      have : (decide (0 ≤ q) && decide (q < ((0 : Nat) : Int))) = false := by simp
      rw [this, memb_nil]; simp⟩
  | succ n ih =>
    obtain ⟨s, h1, h2⟩ := ih (by omega)
    have ends : ∀ p ∈ s, p.1 ≤ p.2 ∧ p.2 < n := fun p hp => by
      have h3 := h1.mem hp
      have h4 : memb s p.2 = true := memb_iff.2 ⟨p, hp, by omega, by omega⟩
      rw [h2] at h4
      simp at h4
      omega
    cases hP : P n with
    | true =>
      have hj := joinF_nf (x := ((n : Int), (n : Int))) h1 (by simp only; omega) (by simp only; omega) (by simp only; omega) fun p hp => by
        have := ends p (List.mem_of_getLast? hp)
        simp only; omega
      refine ⟨_, hj.1, fun q => ?_⟩
      rw [hj.2, h2]
      simp only
      by_cases hq : q = n
      · subst hq; simp [hP]; omega
      · have e1 : (decide ((n : Int) ≤ q) && decide (q ≤ (n : Int))) = false := by simp; omega
        have e2 : decide (q < (n : Int)) = decide (q < ((n + 1 : Nat) : Int)) := by apply bool_eq; simp; omega
        rw [e1, e2, Bool.or_false]
    | false =>
      refine ⟨s, h1, fun q => ?_⟩
      rw [h2]
      by_cases hq : q = n
      · subst hq; simp [hP]
      · have e2 : decide (q < (n : Int)) = decide (q < ((n + 1 : Nat) : Int)) := by apply bool_eq; simp; omega
        rw [e2]

theorem exists_is {P : Int → Bool} (h : ∀ q, P q = (inR q && P q)) : ∃ s, Is P s := by
  obtain ⟨s, h1, h2⟩ := exists_upto P 1114112 (by omega)
  refine ⟨s, h1, fun q => ?_⟩
  rw [h2, h q]
  have : (decide (0 ≤ q) && decide (q < ((1114112 : Nat) : Int))) = inR q := by
    apply bool_eq; simp [inR]; omega
  rw [this]
  cases inR q <;> simp

theorem nf_ok {P : Int → Bool} (h : ∀ q, P q = (inR q && P q)) : Nf 0 (nf P) ∧ memb (nf P) = P := by
  have := nf_is (exists_is h)
  exact ⟨this.1, funext this.2⟩

theorem orP_in (a b : List Sp) (q : Int) : orP a b q = (inR q && orP a b q) := by unfold orP; cases inR q <;> simp
theorem andP_in (a b : List Sp) (q : Int) : andP a b q = (inR q && andP a b q) := by unfold andP; cases inR q <;> simp
theorem minP_in (a b : List Sp) (q : Int) : minP a b q = (inR q && minP a b q) := by unfold minP; cases inR q <;> simp
theorem notP_in (a : List Sp) (q : Int) : notP a q = (inR q && notP a q) := by unfold notP; cases inR q <;> simp
theorem memb_in {a : List Sp} (h : Nf 0 a) (q : Int) : memb a q = (inR q && memb a q) := h.inR q

noncomputable def U (a b : List Sp) : List Sp := nf (orP a b)
noncomputable def I (a b : List Sp) : List Sp := nf (andP a b)
noncomputable def D (a b : List Sp) : List Sp := nf (minP a b)
noncomputable def C (a : List Sp) : List Sp := nf (notP a)

theorem U_nf (a b : List Sp) : Nf 0 (U a b) := (nf_ok (orP_in a b)).1
theorem I_nf (a b : List Sp) : Nf 0 (I a b) := (nf_ok (andP_in a b)).1
theorem D_nf (a b : List Sp) : Nf 0 (D a b) := (nf_ok (minP_in a b)).1
theorem C_nf (a : List Sp) : Nf 0 (C a) := (nf_ok (notP_in a)).1
theorem U_mem (a b : List Sp) (q : Int) : memb (U a b) q = orP a b q := congrFun (nf_ok (orP_in a b)).2 q
theorem I_mem (a b : List Sp) (q : Int) : memb (I a b) q = andP a b q := congrFun (nf_ok (andP_in a b)).2 q
theorem D_mem (a b : List Sp) (q : Int) : memb (D a b) q = minP a b q := congrFun (nf_ok (minP_in a b)).2 q
theorem C_mem (a : List Sp) (q : Int) : memb (C a) q = notP a q := congrFun (nf_ok (notP_in a)).2 q
theorem U_len {a b : List Sp} (ha : Nf 0 a) (hb : Nf 0 b) : (U a b).length ≤ a.length + b.length := or_length ha hb ⟨U_nf a b, U_mem a b⟩
theorem I_len {a b : List Sp} (ha : Nf 0 a) : (I a b).length ≤ a.length + b.length := and_length ha ⟨I_nf a b, I_mem a b⟩
theorem C_len (a : List Sp) : (C a).length ≤ a.length + 1 := not_length ⟨C_nf a, C_mem a⟩

theorem eq_of {s t : List Sp} (hs : Nf 0 s) (ht : Nf 0 t) (h : ∀ q, memb s q = memb t q) : s = t := hs.unique ht h

/-- BOOLE'S ALGEBRA, DE MORGAN -/
theorem U_comm (a b : List Sp) : U a b = U b a := eq_of (U_nf _ _) (U_nf _ _) fun q => by
  simp only [U_mem, orP]; cases inR q <;> cases memb a q <;> cases memb b q <;> rfl
theorem I_comm (a b : List Sp) : I a b = I b a := eq_of (I_nf _ _) (I_nf _ _) fun q => by
  simp only [I_mem, andP]; cases inR q <;> cases memb a q <;> cases memb b q <;> rfl
theorem U_assoc (a b c : List Sp) : U (U a b) c = U a (U b c) := eq_of (U_nf _ _) (U_nf _ _) fun q => by
  simp only [U_mem, orP]; cases inR q <;> cases memb a q <;> cases memb b q <;> cases memb c q <;> rfl
theorem I_assoc (a b c : List Sp) : I (I a b) c = I a (I b c) := eq_of (I_nf _ _) (I_nf _ _) fun q => by
  simp only [I_mem, andP]; cases inR q <;> cases memb a q <;> cases memb b q <;> cases memb c q <;> rfl
theorem I_over (a b c : List Sp) : I a (U b c) = U (I a b) (I a c) := eq_of (I_nf _ _) (U_nf _ _) fun q => by
  simp only [U_mem, orP, I_mem, andP]; cases inR q <;> cases memb a q <;> cases memb b q <;> cases memb c q <;> rfl
theorem U_over (a b c : List Sp) : U a (I b c) = I (U a b) (U a c) := eq_of (U_nf _ _) (I_nf _ _) fun q => by
  simp only [U_mem, orP, I_mem, andP]; cases inR q <;> cases memb a q <;> cases memb b q <;> cases memb c q <;> rfl
theorem C_U (a b : List Sp) : C (U a b) = I (C a) (C b) := eq_of (C_nf _) (I_nf _ _) fun q => by
  simp only [U_mem, orP, I_mem, andP, C_mem, notP]; cases inR q <;> cases memb a q <;> cases memb b q <;> rfl
theorem C_C {a : List Sp} (h : Nf 0 a) : C (C a) = a := eq_of (C_nf _) h fun q => by
  rw [h.inR q]; simp only [C_mem, notP]; cases inR q <;> cases memb a q <;> rfl
theorem U_self {a : List Sp} (h : Nf 0 a) : U a a = a := eq_of (U_nf _ _) h fun q => by
  rw [h.inR q]; simp only [U_mem, orP]; cases inR q <;> cases memb a q <;> rfl
theorem I_C (a : List Sp) : I a (C a) = [] := eq_of (I_nf _ _) trivial fun q => by
  rw [memb_nil]; simp only [I_mem, andP, C_mem, notP]; cases inR q <;> cases memb a q <;> rfl
theorem D_C (a b : List Sp) : D a b = I a (C b) := eq_of (D_nf _ _) (I_nf _ _) fun q => by
  simp only [I_mem, andP, C_mem, notP, D_mem, minP]; cases inR q <;> cases memb a q <;> cases memb b q <;> rfl

/-- right sets that make none too large -/
theorem wrong_ok {a : List Sp} (h : Nf 0 a) (hl : a.length ≤ 200) : wrongE a = 0 := wrongE_zero.2 ⟨hl, h⟩
theorem resL_ok {P : Int → Bool} (h : (nf P).length ≤ 200) : resL 0 0 P = nf P := by
  unfold resL fewL; simp; omega
theorem resE_ok {P : Int → Bool} (h : (nf P).length ≤ 200) : resE 0 0 P = 0 := by
  unfold resE fewE; simp; omega

/-- HOW MANY: numbers from 0 on, below n, of which something holds -/
def cnt (P : Int → Bool) : Nat → Nat
  | 0 => 0
  | n + 1 => cnt P n + if P n = true then 1 else 0

theorem cnt_congr {P Q : Int → Bool} {n : Nat} (h : ∀ q : Int, 0 ≤ q → q < (n : Int) → P q = Q q) : cnt P n = cnt Q n := by
  induction n with
  | zero => rfl
  | succ n ih => rw [cnt, cnt, ih fun q h1 h2 => h q h1 (by omega), h n (by omega) (by omega)]
theorem cnt_add (P Q : Int → Bool) (n : Nat) : cnt (fun q => P q || Q q) n + cnt (fun q => P q && Q q) n = cnt P n + cnt Q n := by
  induction n with
  | zero => rfl
  | succ n ih => simp only [cnt]; by_cases hP : P n = true <;> by_cases hQ : Q n = true <;> simp [hP, hQ] <;> omega
theorem cnt_not (P : Int → Bool) (n : Nat) : cnt P n + cnt (fun q => !P q) n = n := by
  induction n with
  | zero => rfl
  | succ n ih => simp only [cnt]; by_cases hP : P n = true <;> simp [hP] <;> omega
theorem cnt_le (P : Int → Bool) (n : Nat) : cnt P n ≤ n := by
  induction n with
  | zero => exact Nat.le_refl _
  | succ n ih => simp only [cnt]; by_cases hP : P n = true <;> simp [hP] <;> omega
theorem cnt_mono {P Q : Int → Bool} {n : Nat} (h : ∀ q : Int, 0 ≤ q → q < (n : Int) → P q = true → Q q = true) : cnt P n ≤ cnt Q n := by
  induction n with
  | zero => exact Nat.le_refl _
  | succ n ih =>
    have := ih fun q h1 h2 => h q h1 (by omega)
    have h2 := h n (by omega) (by omega)
    simp only [cnt]
    by_cases hP : P n = true
    · rw [if_pos hP, if_pos (h2 hP)]; omega
    · rw [if_neg hP]; split <;> omega
/-- who has as many of the same has them all -/
theorem cnt_eq {P Q : Int → Bool} {n : Nat} (h : ∀ q : Int, 0 ≤ q → q < (n : Int) → P q = true → Q q = true) (he : cnt P n = cnt Q n) : ∀ q : Int, 0 ≤ q → q < (n : Int) → Q q = true → P q = true := by
  induction n with
  | zero => intro q h1 h2; omega
  | succ n ih =>
    have hm := cnt_mono (n := n) fun q h1 h2 => h q h1 (by omega)
    have h2 := h n (by omega) (by omega)
    simp only [cnt] at he
    intro q h3 h4 h5
    by_cases e : q = n
    · subst e
      rw [h5] at he
      cases hP : P (n : Int) with
      | true => rfl
      | false => rw [hP] at he; simp at he; omega
    · refine ih (fun q h1 h2 => h q h1 (by omega)) ?_ q h3 (by omega) h5
      cases hP : P (n : Int) with
      | true => rw [hP, h2 hP] at he; omega
      | false => rw [hP] at he; cases hQ : Q (n : Int) <;> rw [hQ] at he <;> simp at he <;> omega

theorem cnt_span (lo hi : Int) (n : Nat) (h0 : 0 ≤ lo) (h1 : lo ≤ hi + 1) : (cnt (fun q => decide (lo ≤ q) && decide (q ≤ hi)) n : Int) = (if (n : Int) ≤ lo then 0 else if (n : Int) ≤ hi + 1 then (n : Int) - lo else hi - lo + 1) := by
  induction n with
  | zero => simp [cnt, h0]
  | succ n ih =>
    simp only [cnt]
    rw [Int.natCast_add, ih]
    by_cases c1 : lo ≤ (n : Int)
    · by_cases c2 : (n : Int) ≤ hi
      · simp [c1, c2]; split <;> split <;> (try split) <;> (try split) <;> omega
      · simp [c1, c2]; split <;> split <;> (try split) <;> (try split) <;> omega
    · simp [c1]; split <;> split <;> (try split) <;> (try split) <;> omega

/-- the sum of the spans' sizes -/
def total : List Sp → Int
  | [] => 0
  | x :: l => (x.2 - x.1 + 1) + total l

theorem cnt_or_apart (P Q : Int → Bool) (n : Nat) (h : ∀ q, (P q && Q q) = false) : cnt (fun q => P q || Q q) n = cnt P n + cnt Q n := by
  have := cnt_add P Q n
  have e : cnt (fun q => P q && Q q) n = 0 := by
    have h1 : cnt (fun q => P q && Q q) n = cnt (fun _ => false) n := cnt_congr fun q _ _ => h q
    rw [h1]
    clear this h1
    induction n with
    | zero => rfl
    | succ n ih => simp only [cnt]; simp [ih]
  omega

theorem total_cnt {b : Int} {l : List Sp} (h : Nf b l) (hb : 0 ≤ b) : total l = cnt (memb l) 1114112 := by
  induction l generalizing b with
  | nil =>
    have : cnt (memb []) 1114112 = 0 := by
      have h1 : ∀ n, cnt (memb []) n = 0 := fun n => by
        induction n with
        | zero => rfl
        | succ n ih => simp only [cnt, ih, memb_nil]; rfl
      exact h1 _
    rw [this]; rfl
  | cons x l ih =>
    obtain ⟨h1, h2, h3, h4⟩ := h
    have e : cnt (memb (x :: l)) 1114112 = cnt (fun q => decide (x.1 ≤ q) && decide (q ≤ x.2)) 1114112 + cnt (memb l) 1114112 := by
      rw [← cnt_or_apart]
      · rfl
      · intro q
        cases hm : memb l q with
        | false => simp
        | true => have := (h4.low hm).1; simp; omega
    rw [total, e, ih h4 (by omega), Int.natCast_add, cnt_span x.1 x.2 1114112 (by omega) (by omega)]
    rw [if_neg (by omega)]
    split <;> omega

theorem total_nonneg {b : Int} {l : List Sp} (h : Nf b l) : 0 ≤ total l := by
  induction l generalizing b with
  | nil => exact Int.le_refl _
  | cons x l ih => have := ih h.2.2.2; have := h.2.1; simp only [total]; omega

/-- the k-th number -/
def nthF : List Sp → Int → Option Int
  | [], _ => none
  | x :: l, k => if k < x.2 - x.1 + 1 then some (x.1 + k) else nthF l (k - (x.2 - x.1 + 1))

theorem nthF_some {b : Int} {l : List Sp} {k : Int} (h : Nf b l) (h0 : 0 ≤ k) : (∃ r, nthF l k = some r) ↔ k < total l := by
  induction l generalizing b k with
  | nil => simp [nthF, total]; omega
  | cons x l ih =>
    obtain ⟨h1, h2, h3, h4⟩ := h
    have ht := total_nonneg h4
    simp only [nthF, total]
    by_cases c : k < x.2 - x.1 + 1
    · simp [c]; omega
    · rw [if_neg c, ih h4 (by omega)]; omega

theorem cnt_memb_upto {b : Int} {l : List Sp} {k r : Int} (h : Nf b l) (hb : 0 ≤ b) (h0 : 0 ≤ k) (hr : nthF l k = some r) : memb l r = true ∧ (cnt (fun q => memb l q && decide (q ≤ r)) 1114112 : Int) = k + 1 := by
  induction l generalizing b k with
  | nil => simp [nthF] at hr
  | cons x l ih =>
    obtain ⟨h1, h2, h3, h4⟩ := h
    have e : cnt (fun q => memb (x :: l) q && decide (q ≤ r)) 1114112 = cnt (fun q => decide (x.1 ≤ q) && decide (q ≤ (if x.2 ≤ r then x.2 else r))) 1114112 + cnt (fun q => memb l q && decide (q ≤ r)) 1114112 := by
      rw [← cnt_or_apart]
      · refine cnt_congr fun q _ _ => ?_
        rw [memb_cons]
        apply bool_eq
        cases memb l q <;> by_cases c : x.2 ≤ r <;> simp [c] <;> omega
      · intro q
        cases hm : memb l q with
        | false => simp
        | true =>
          have := (h4.low hm).1
          by_cases c : x.2 ≤ r
          · simp [c]; omega
          · simp [c]; omega
    simp only [nthF] at hr
    by_cases c : k < x.2 - x.1 + 1
    · rw [if_pos c] at hr
      cases hr
      refine ⟨by rw [memb_cons]; simp; omega, ?_⟩
      have e2 : cnt (fun q => memb l q && decide (q ≤ x.1 + k)) 1114112 = 0 := by
        have h1 : cnt (fun q => memb l q && decide (q ≤ x.1 + k)) 1114112 = cnt (memb []) 1114112 := cnt_congr fun q _ _ => by
          rw [memb_nil]
          cases hm : memb l q with
          | false => rfl
          | true => have := (h4.low hm).1; simp; omega
        rw [h1]
        have := total_cnt (b := 0) (l := []) trivial (by omega)
        simp [total] at this
        omega
      rw [e, e2, Int.natCast_add, cnt_span _ _ 1114112 (by omega) (by split <;> omega)]
      split <;> (try split) <;> (try split) <;> omega
    · rw [if_neg c] at hr
      obtain ⟨i1, i2⟩ := ih h4 (by omega) (k := k - (x.2 - x.1 + 1)) (by omega) hr
      have hlow := (h4.low i1).1
      refine ⟨by rw [memb_cons, i1]; simp, ?_⟩
      rw [e, Int.natCast_add, i2, if_pos (by omega), cnt_span _ _ 1114112 (by omega) (by omega)]
      split <;> (try split) <;> omega

end Go.Proofs.YtchkcjaahjhbcabGreatDoor.S

/-
  The plain mathematics of a text's runes: places and runes of a text from a place on, by the model's own decoding of UTF-8; no program is named here.
-/
namespace Go.Proofs.YtchkcjaahjhbcabGreatDoor.M

theorem width_pos (s : ByteArray) (pos : Nat) (h : pos < s.size) : 1 ≤ (Utf8.decode s pos).2 := by
  by_cases ha : (s[pos]'h).toNat < 128
  · rw [decode_ascii s pos h ha]
    exact Nat.le_refl _
  · exact (decode_high s pos h (by omega)).2

/-- a rune's bytes lie within the text -/
theorem width_fits (s : ByteArray) (pos : Nat) (h : pos < s.size) : (Utf8.decode s pos).2 ≤ 4 ∧ pos + (Utf8.decode s pos).2 ≤ s.size := by
  rw [Lib.decode_at]
  unfold Lib.decodeN
  repeat' split
  all_goals simp only
  all_goals omega

/-- places and runes -/
def steps (s : ByteArray) : Nat → Nat → List (Nat × Nat)
  | 0, _ => []
  | b + 1, pos => if pos < s.size then (pos, (Utf8.decode s pos).1) :: steps s b (pos + (Utf8.decode s pos).2) else []

theorem steps_end (s : ByteArray) (b pos : Nat) (h : ¬ pos < s.size) : steps s b pos = [] := by
  cases b with
  | zero => rfl
  | succ b => simp [steps, h]

theorem steps_fuel (s : ByteArray) : ∀ (b c pos : Nat), s.size ≤ pos + b → s.size ≤ pos + c → steps s b pos = steps s c pos
  | 0, c, pos, hb, _ => by rw [steps_end s c pos (by omega), steps_end s 0 pos (by omega)]
  | b + 1, 0, pos, _, hc => by rw [steps_end s (b + 1) pos (by omega), steps_end s 0 pos (by omega)]
  | b + 1, c + 1, pos, hb, hc => by
    by_cases h : pos < s.size
    · have hw := width_pos s pos h
      simp only [steps, h, if_true]
      rw [steps_fuel s b c (pos + (Utf8.decode s pos).2) (by omega) (by omega)]
    · rw [steps_end s _ pos h, steps_end s _ pos h]

def all (s : ByteArray) : List (Nat × Nat) := steps s s.size 0
def rn (s : ByteArray) : List Int := (all s).map fun x => (x.2 : Int)
def pl (s : ByteArray) : List Int := (all s).map (fun x => (x.1 : Int)) ++ [(s.size : Int)]

theorem steps_length (s : ByteArray) : ∀ (b pos : Nat), (steps s b pos).length ≤ b
  | 0, _ => by simp [steps]
  | b + 1, pos => by
    unfold steps
    split
    · have := steps_length s b (pos + (Utf8.decode s pos).2)
      simp only [List.length_cons]; omega
    · simp
theorem rn_length (s : ByteArray) : (rn s).length ≤ s.size := by simpa [rn, all] using steps_length s s.size 0
theorem pl_length (s : ByteArray) : (pl s).length = (rn s).length + 1 := by simp [pl, rn]


/-- places from a place on, the end behind them -/
def plFrom (s : ByteArray) (b pos : Nat) : List Int := (steps s b pos).map (fun x => (x.1 : Int)) ++ [(s.size : Int)]
theorem pl_eq (s : ByteArray) : pl s = plFrom s s.size 0 := rfl

theorem plFrom_head (s : ByteArray) (b pos : Nat) (h : pos ≤ s.size) (hb : s.size ≤ pos + b) : (plFrom s b pos)[0]? = some (pos : Int) := by
  unfold plFrom
  by_cases hp : pos < s.size
  · cases b with
    | zero => omega
    | succ b => simp [steps, hp]
  · rw [steps_end s b pos hp]
    have : pos = s.size := by omega
    simp [this]

/-- places rise, by four at most -/
theorem plFrom_step (s : ByteArray) : ∀ (b pos : Nat), pos ≤ s.size → s.size ≤ pos + b → ∀ (i : Nat) (x y : Int), (plFrom s b pos)[i]? = some x → (plFrom s b pos)[i + 1]? = some y → x < y ∧ y ≤ x + 4
  | 0, pos, h, hb, i, x, y, hx, hy => by
    rw [plFrom, steps_end s 0 pos (by omega)] at hy
    simp at hy
  | b + 1, pos, h, hb, i, x, y, hx, hy => by
    by_cases hp : pos < s.size
    · have hw := width_pos s pos hp
      have hf := width_fits s pos hp
      have e : plFrom s (b + 1) pos = (pos : Int) :: plFrom s b (pos + (Utf8.decode s pos).2) := by simp [plFrom, steps, hp]
      rw [e] at hx hy
      cases i with
      | zero =>
        have h2 := plFrom_head s b (pos + (Utf8.decode s pos).2) hf.2 (by omega)
        simp only [Nat.zero_add, List.getElem?_cons_succ] at hy
        rw [h2] at hy
        simp at hx hy
        omega
      | succ i =>
        simp only [List.getElem?_cons_succ] at hx hy
        exact plFrom_step s b _ hf.2 (by omega) i x y hx hy
    · rw [plFrom, steps_end s _ pos hp] at hy
      simp at hy

theorem pl_first (s : ByteArray) : (pl s)[0]? = some 0 := plFrom_head s s.size 0 (by omega) (by omega)
theorem pl_last (s : ByteArray) : (pl s)[(rn s).length]? = some (s.size : Int) := by simp [pl, rn]
theorem pl_step (s : ByteArray) (i : Nat) (x y : Int) (hx : (pl s)[i]? = some x) (hy : (pl s)[i + 1]? = some y) : x < y ∧ y ≤ x + 4 :=
  plFrom_step s s.size 0 (by omega) (by omega) i x y hx hy
theorem steps_bd (s : ByteArray) : ∀ (b pos : Nat) (x : Nat × Nat), x ∈ steps s b pos → x.1 < s.size ∧ x.2 ≤ 1114111
  | 0, _, x, h => by simp [steps] at h
  | b + 1, pos, x, h => by
    unfold steps at h
    split at h
    · rename_i hp
      rcases List.mem_cons.1 h with rfl | h
      · refine ⟨hp, ?_⟩
        show (Utf8.decode s pos).1 ≤ 1114111
        rw [Lib.decode_at]
        have hb : ∀ k, (s.get! (pos + k)).toNat < 256 := fun k => (s.get! (pos + k)).toNat_lt
        unfold Lib.decodeN
        repeat' split
        all_goals simp only
        all_goals omega
      · exact steps_bd s b _ x h
    · simp at h
theorem pl_bd (s : ByteArray) (i : Nat) (x : Int) (hx : (pl s)[i]? = some x) : 0 ≤ x ∧ x ≤ s.size := by
  have hm := List.mem_of_getElem? hx
  unfold pl at hm
  rcases List.mem_append.1 hm with h | h
  · obtain ⟨y, hy, rfl⟩ := List.mem_map.1 h
    have := (steps_bd s _ _ y hy).1
    omega
  · simp at h; omega


/-- a rune that is right -/
def right (r : Int) : Bool := decide (0 ≤ r ∧ r ≤ 1114111 ∧ (r < 55296 ∨ 57343 < r))
/-- does a text begin with another one? -/
def pre (s p : ByteArray) : Bool := decide (p.size ≤ s.size) && ((s.extract 0 p.size).data.toList == p.data.toList)

end Go.Proofs.YtchkcjaahjhbcabGreatDoor.M
