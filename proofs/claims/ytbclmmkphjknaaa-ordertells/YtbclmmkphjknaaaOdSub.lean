/-
  Marks in the order of their classes, as they stood: slices.SortStableFunc.
-/
import Derived.Test.YtbclmmkphjknaaaOdSym3
import Derived.Test.YtbclmmkphjknaaaNmSub
import Derived.Test.YtbclmmkphjknaaaOdApp
namespace Go.Proofs.Ytbclmmkphjknaaa
open Go.RowKit Go.Sort Go.Shelf
set_option maxRecDepth 20000
set_option linter.unusedSimpArgs false
set_option linter.unusedVariables false

namespace Od
variable [Ck]
/-- stretches of one length, each in order -/
def Chk (bs : Nat) (Cs : List (List Int)) : Prop := ∀ C ∈ Cs, C.length = bs ∧ Srt C
theorem Chk.nil (bs : Nat) : Chk bs [] := fun C hC => by cases hC
theorem Chk.snoc {bs : Nat} {Cs : List (List Int)} {C : List Int} (h : Chk bs Cs) (h1 : C.length = bs) (h2 : Srt C) : Chk bs (Cs ++ [C]) := fun D hD => by
  rcases List.mem_append.1 hD with h3 | h3
  · exact h D h3
  · simp at h3; subst h3; exact ⟨h1, h2⟩
def Ph1 (w0 : World) (blk off n : Nat) (L0 : List Int) (a : Nat) (wr : World) : Prop := ∃ Cs R, In w0 blk off n (Cs.flatten ++ R) wr ∧ Chk 20 Cs ∧ Cs.flatten.length = a ∧ Eqv L0 (Cs.flatten ++ R)
def Ph2 (w0 : World) (blk off n : Nat) (L0 : List Int) (bs : Nat) (wr : World) : Prop := ∃ Cs T, In w0 blk off n (Cs.flatten ++ T) wr ∧ Chk bs Cs ∧ Srt T ∧ T.length < bs ∧ Eqv L0 (Cs.flatten ++ T)
def Ph3 (w0 : World) (blk off n : Nat) (L0 : List Int) (bs a : Nat) (wr : World) : Prop := ∃ Ds Cs T, In w0 blk off n (Ds.flatten ++ (Cs.flatten ++ T)) wr ∧ Chk (2 * bs) Ds ∧ Chk bs Cs ∧ Srt T ∧ T.length < bs ∧ Ds.flatten.length = a ∧ Eqv L0 (Ds.flatten ++ (Cs.flatten ++ T))
theorem Ph2.start {w0 : World} {blk off n : Nat} {L0 : List Int} {bs : Nat} {wr : World} (h : Ph2 w0 blk off n L0 bs wr) : Ph3 w0 blk off n L0 bs 0 wr := by
  obtain ⟨Cs, T, h1, h2, h3, h4, h5⟩ := h
  exact ⟨[], Cs, T, by simpa using h1, Chk.nil _, h2, h3, h4, rfl, by simpa using h5⟩
theorem Ph3.over {w0 : World} {blk off n : Nat} {L0 : List Int} {bs a : Nat} {wr : World} (h : Ph3 w0 blk off n L0 bs a wr) (hb : 0 < bs) (hn : n ≤ a + bs) : Ph2 w0 blk off n L0 (2 * bs) wr := by
  obtain ⟨Ds, Cs, T, h1, h2, h3, h4, h5, h6, h7⟩ := h
  have hl := h1.1
  simp only [List.length_append, h6] at hl
  cases Cs with
  | nil => exact ⟨Ds, T, by simpa using h1, h2, h4, by omega, by simpa using h7⟩
  | cons C Cs =>
    have hC := h3 C List.mem_cons_self
    simp only [List.flatten_cons, List.length_append, hC.1] at hl
    have e1 : Cs.flatten = [] := List.eq_nil_of_length_eq_zero (by omega)
    have e2 : T = [] := List.eq_nil_of_length_eq_zero (by omega)
    subst e2
    exact ⟨Ds, C, by simpa [e1] using h1, h2, hC.2, by rw [hC.1]; omega, by simpa [e1] using h7⟩
theorem Ph2.done {w0 : World} {blk off n : Nat} {L0 : List Int} {bs : Nat} {wr : World} (h : Ph2 w0 blk off n L0 bs wr) (hb : 0 < bs) (hn : n ≤ bs) : ∃ S', Srt S' ∧ Eqv L0 S' ∧ In w0 blk off n S' wr := by
  obtain ⟨Cs, T, h1, h2, h3, h4, h5⟩ := h
  have hl := h1.1
  simp only [List.length_append] at hl
  cases Cs with
  | nil => exact ⟨T, h3, by simpa using h5, by simpa using h1⟩
  | cons C Cs =>
    have hC := h2 C List.mem_cons_self
    simp only [List.flatten_cons, List.length_append, hC.1] at hl
    have e1 : Cs.flatten = [] := List.eq_nil_of_length_eq_zero (by omega)
    have e2 : T = [] := List.eq_nil_of_length_eq_zero (by omega)
    subst e2
    exact ⟨C, hC.2, by simpa [e1] using h5, by simpa [e1] using h1⟩
end Od

theorem odStb_ins1 [Od.Ck] {w0 : World} {blk off n cap : Nat} {L0 : List Int} {a : Nat} {wr : World} (hsz : n < 1152921504606846976) (HK : Hid (Od.Con w0 blk)) (h : Od.Ph1 w0 blk off n L0 a wr) (hn : a + 20 ≤ n) :
    Calls Try.prog 64 #[.slice (some ⟨blk, off, none⟩) n cap, .int .i64 (a : Nat), .int .i64 ((a + 20 : Nat) : Int), .func (.func 54) #[] #[.pointer (some ⟨Od.Ck.kb, 0, none⟩)]] wr fun e w' => e = .returned (.tuple #[]) ∧ Od.Ph1 w0 blk off n L0 (a + 20) w' := by
  obtain ⟨Cs, R, h1, h2, h3, h4⟩ := h
  have hl := h1.1
  simp only [List.length_append] at hl
  refine (odIns_any w0 wr blk off n cap a (a + 20) Cs.flatten (R.take 20) (R.drop 20) HK (h1.of (by rw [List.append_assoc, List.take_append_drop])) h3.symm (by rw [List.length_take]; omega) hsz).mono fun e w' ⟨e1, S', k1, k2, k3, k4⟩ => ⟨e1, Cs ++ [S'], R.drop 20, k4.of (by rw [Nm.flat_snoc]), h2.snoc (by rw [k1, List.length_take]; omega) k2, ?_, ?_⟩
  · rw [Nm.flat_snoc, List.length_append, k1, List.length_take]; omega
  · rw [Nm.flat_snoc]
    refine h4.trans ?_
    have := (Od.Eqv.refl Cs.flatten).app (k3.app (Od.Eqv.refl (R.drop 20)))
    rw [List.take_append_drop] at this
    rw [List.append_assoc]; exact this
theorem odStb_ins2 [Od.Ck] {w0 : World} {blk off n cap : Nat} {L0 : List Int} {a : Nat} {wr : World} (hsz : n < 1152921504606846976) (HK : Hid (Od.Con w0 blk)) (h : Od.Ph1 w0 blk off n L0 a wr) (hn : n < a + 20) :
    Calls Try.prog 64 #[.slice (some ⟨blk, off, none⟩) n cap, .int .i64 (a : Nat), .int .i64 (n : Nat), .func (.func 54) #[] #[.pointer (some ⟨Od.Ck.kb, 0, none⟩)]] wr fun e w' => e = .returned (.tuple #[]) ∧ Od.Ph2 w0 blk off n L0 20 w' := by
  obtain ⟨Cs, R, h1, h2, h3, h4⟩ := h
  have hl := h1.1
  simp only [List.length_append] at hl
  refine (odIns_any w0 wr blk off n cap a n Cs.flatten R [] HK (h1.of (by simp)) h3.symm (by omega) hsz).mono fun e w' ⟨e1, S', k1, k2, k3, k4⟩ => ⟨e1, Cs, S', k4.of (by simp), h2, k2, by omega, h4.trans ((Od.Eqv.refl _).app k3)⟩
theorem odStb_mg1 [Od.Ck] {w0 : World} {blk off n cap : Nat} {L0 : List Int} {bs a : Nat} {wr : World} (hsz : n < 1152921504606846976) (HK : Hid (Od.Con w0 blk)) (h : Od.Ph3 w0 blk off n L0 bs a wr) (hb : 0 < bs) (hn : a + 2 * bs ≤ n) :
    Calls Try.prog 65 #[.slice (some ⟨blk, off, none⟩) n cap, .int .i64 (a : Nat), .int .i64 ((a + bs : Nat) : Int), .int .i64 ((a + 2 * bs : Nat) : Int), .func (.func 54) #[] #[.pointer (some ⟨Od.Ck.kb, 0, none⟩)]] wr fun e w' => e = .returned (.tuple #[]) ∧ Od.Ph3 w0 blk off n L0 bs (a + 2 * bs) w' := by
  obtain ⟨Ds, Cs, T, h1, h2, h3, h4, h5, h6, h7⟩ := h
  have hl := h1.1
  simp only [List.length_append, h6] at hl
  match Cs, h1, h3, h7, hl with
  | [], h1, h3, h7, hl => simp at hl; omega
  | [C], h1, h3, h7, hl =>
    have hC := h3 C List.mem_cons_self
    simp [hC.1] at hl; omega
  | C :: D :: Cs, h1, h3, h7, hl =>
    have hC := h3 C List.mem_cons_self
    have hD := h3 D (List.mem_cons_of_mem _ List.mem_cons_self)
    refine (odSym_any w0 blk off n cap hsz HK (C.length + D.length) wr a (a + bs) (a + 2 * bs) Ds.flatten C D (Cs.flatten ++ T) (h1.of (by simp)) h6.symm (by have := hC.1; omega) (by have := hD.1; omega) (by have := hC.1; omega) (by have := hD.1; omega) (Nat.le_refl _) hC.2 hD.2).mono fun e w' ⟨e1, S', k1, k2, k3, k4⟩ => ⟨e1, Ds ++ [S'], Cs, T, k4.of (by simp), h2.snoc (by have := hC.1; have := hD.1; omega) k2, fun E hE => h3 E (List.mem_cons_of_mem _ (List.mem_cons_of_mem _ hE)), h4, h5, ?_, ?_⟩
    · rw [Nm.flat_snoc, List.length_append, k1, hC.1, hD.1]; omega
    · rw [Nm.flat_snoc]
      refine h7.trans ?_
      have := (Od.Eqv.refl Ds.flatten).app (k3.app (Od.Eqv.refl (Cs.flatten ++ T)))
      simpa using this
theorem odStb_mg2 [Od.Ck] {w0 : World} {blk off n cap : Nat} {L0 : List Int} {bs a : Nat} {wr : World} (hsz : n < 1152921504606846976) (HK : Hid (Od.Con w0 blk)) (h : Od.Ph3 w0 blk off n L0 bs a wr) (hb : 0 < bs) (hn : n < a + 2 * bs) (hm : a + bs < n) :
    Calls Try.prog 65 #[.slice (some ⟨blk, off, none⟩) n cap, .int .i64 (a : Nat), .int .i64 ((a + bs : Nat) : Int), .int .i64 (n : Nat), .func (.func 54) #[] #[.pointer (some ⟨Od.Ck.kb, 0, none⟩)]] wr fun e w' => e = .returned (.tuple #[]) ∧ Od.Ph2 w0 blk off n L0 (2 * bs) w' := by
  obtain ⟨Ds, Cs, T, h1, h2, h3, h4, h5, h6, h7⟩ := h
  have hl := h1.1
  simp only [List.length_append, h6] at hl
  match Cs, h1, h3, h7, hl with
  | [], h1, h3, h7, hl => simp at hl; omega
  | C :: D :: Cs, h1, h3, h7, hl =>
    have hC := h3 C List.mem_cons_self
    have hD := h3 D (List.mem_cons_of_mem _ List.mem_cons_self)
    simp [hC.1, hD.1] at hl; omega
  | [C], h1, h3, h7, hl =>
    have hC := h3 C List.mem_cons_self
    simp only [List.flatten_cons, List.flatten_nil, List.append_nil, hC.1] at hl
    refine (odSym_any w0 blk off n cap hsz HK (C.length + T.length) wr a (a + bs) n Ds.flatten C T [] (h1.of (by simp)) h6.symm (by rw [hC.1]) (by omega) (by rw [hC.1]; omega) (by omega) (Nat.le_refl _) hC.2 h4).mono fun e w' ⟨e1, S', k1, k2, k3, k4⟩ => ⟨e1, Ds, S', k4.of (by simp), h2, k2, by rw [k1, hC.1]; omega, h7.trans ?_⟩
    have := (Od.Eqv.refl Ds.flatten).app k3
    simpa using this

set_option maxHeartbeats 4000000 in
theorem odStable_any [Od.Ck] (w : World) (blk off n cap : Nat) (L : List Int) (HK : Hid (Od.Con w blk)) (hok : ∀ x ∈ L, Od.ok x) (h0 : Holds Zi.en w blk off L.toArray) (hn : L.length = n) (hsz : n < 1152921504606846976) :
    Calls Try.prog 56 #[.slice (some ⟨blk, off, none⟩) n cap, .int .i64 n, .func (.func 54) #[] #[.pointer (some ⟨Od.Ck.kb, 0, none⟩)]] w fun e w' => e = .returned (.tuple #[]) ∧ ∃ S', Od.Srt S' ∧ Od.Eqv L S' ∧ Od.In w blk off n S' w' := by
  have HS : Hid (Od.Ph1 w blk off n L 0 w) := by
    have h := Od.In.start h0 hok
    rw [hn] at h
    exact ⟨[], L, by simpa using h, Od.Chk.nil _, rfl, by simpa using Od.Eqv.refl L⟩
  clear h0 hn hok
  have H1 : Hid (∀ (a : Nat) X, Od.Ph1 w blk off n L a X → a + 20 ≤ n → Calls Try.prog 64 #[.slice (some ⟨blk, off, none⟩) n cap, .int .i64 (a : Nat), .int .i64 ((a + 20 : Nat) : Int), .func (.func 54) #[] #[.pointer (some ⟨Od.Ck.kb, 0, none⟩)]] X fun e w' => e = .returned (.tuple #[]) ∧ Od.Ph1 w blk off n L (a + 20) w') := fun a X h1 h2 => odStb_ins1 hsz HK h1 h2
  have H2 : Hid (∀ (a : Nat) X, Od.Ph1 w blk off n L a X → n < a + 20 → Calls Try.prog 64 #[.slice (some ⟨blk, off, none⟩) n cap, .int .i64 (a : Nat), .int .i64 (n : Nat), .func (.func 54) #[] #[.pointer (some ⟨Od.Ck.kb, 0, none⟩)]] X fun e w' => e = .returned (.tuple #[]) ∧ Od.Ph2 w blk off n L 20 w') := fun a X h1 h2 => odStb_ins2 hsz HK h1 h2
  have H3 : Hid (∀ (bs a : Nat) X, Od.Ph3 w blk off n L bs a X → 0 < bs → a + 2 * bs ≤ n → Calls Try.prog 65 #[.slice (some ⟨blk, off, none⟩) n cap, .int .i64 (a : Nat), .int .i64 ((a + bs : Nat) : Int), .int .i64 ((a + 2 * bs : Nat) : Int), .func (.func 54) #[] #[.pointer (some ⟨Od.Ck.kb, 0, none⟩)]] X fun e w' => e = .returned (.tuple #[]) ∧ Od.Ph3 w blk off n L bs (a + 2 * bs) w') := fun bs a X h1 h2 h3 => odStb_mg1 hsz HK h1 h2 h3
  have H4 : Hid (∀ (bs a : Nat) X, Od.Ph3 w blk off n L bs a X → 0 < bs → n < a + 2 * bs → a + bs < n → Calls Try.prog 65 #[.slice (some ⟨blk, off, none⟩) n cap, .int .i64 (a : Nat), .int .i64 ((a + bs : Nat) : Int), .int .i64 (n : Nat), .func (.func 54) #[] #[.pointer (some ⟨Od.Ck.kb, 0, none⟩)]] X fun e w' => e = .returned (.tuple #[]) ∧ Od.Ph2 w blk off n L (2 * bs) w') := fun bs a X h1 h2 h3 h4 => odStb_mg2 hsz HK h1 h2 h3 h4
  go_enter Try.func56, Try.ntmps56
  go_wp2
  go_loopw [7, 8] (fun va vb wr => ∃ a : Nat, va = .int .i64 a ∧ vb = .int .i64 ((a + 20 : Nat) : Int) ∧ a ≤ n ∧ Hid (Od.Ph1 w blk off n L a wr)) (fun va _ _ => n - (RowKit.intOf va).toNat)
  case atStart => exact ⟨0, rfl, rfl, Nat.zero_le _, HS.out⟩
  case round =>
    obtain ⟨a, rfl, rfl, ha, HP⟩ := hrel
    clear HS
    by_cases hlt : a + 20 ≤ n
    · have hC : Hid (Calls Try.prog 64 #[.slice (some ⟨blk, off, none⟩) n cap, .int .i64 (a : Nat), .int .i64 ((a + 20 : Nat) : Int), .func (.func 54) #[] #[.pointer (some ⟨Od.Ck.kb, 0, none⟩)]] wr fun e w' => e = .returned (.tuple #[]) ∧ Od.Ph1 w blk off n L (a + 20) w') := H1.out a wr HP.out hlt
      clear H1 H2 H3 H4 HP
      obtain ⟨b, hb⟩ : ∃ b, b = a + 20 := ⟨_, rfl⟩
      rw [← hb] at hC hlt ⊢
      have HB : Hid (b = a + 20) := hb
      have hb1 : a < b := by omega
      clear hb
      go_wp2_with fail
      refine hC.out.mono ?_
      rintro e w1 ⟨rfl, h⟩
      have HP1 : Hid (Od.Ph1 w blk off n L b w1) := h
      clear h hC
      go_wp2
      go_roundw
      case rel => exact ⟨b, rfl, by go_num, hlt, HP1.out⟩
      case measure => simp [RowKit.intOf]; omega
    · have hC : Hid (Calls Try.prog 64 #[.slice (some ⟨blk, off, none⟩) n cap, .int .i64 (a : Nat), .int .i64 (n : Nat), .func (.func 54) #[] #[.pointer (some ⟨Od.Ck.kb, 0, none⟩)]] wr fun e w' => e = .returned (.tuple #[]) ∧ Od.Ph2 w blk off n L 20 w') := H2.out a wr HP.out (by omega)
      clear H1 H2 HP
      go_wp2_with fail
      refine hC.out.mono ?_
      rintro e w1 ⟨rfl, h⟩
      have HP2 : Hid (Od.Ph2 w blk off n L 20 w1) := h
      clear h hC
      go_wp2
      go_loopw [6] (fun vb wr => ∃ bs : Nat, vb = .int .i64 bs ∧ 0 < bs ∧ bs ≤ 2 * n + 20 ∧ Hid (Od.Ph2 w blk off n L bs wr)) (fun vb _ => 2 * n + 20 - (RowKit.intOf vb).toNat)
      case atStart => exact ⟨20, rfl, by omega, by omega, HP2.out⟩
      case round =>
        obtain ⟨bs, rfl, hb0, hb1, HQ⟩ := hrel
        clear HP2
        by_cases hbn : bs < n
        · have HQ3 : Hid (Od.Ph3 w blk off n L bs 0 wr) := HQ.out.start
          clear HQ
          go_wp2
          go_loopw [7, 8] (fun va vb wr => ∃ a : Nat, va = .int .i64 a ∧ vb = .int .i64 ((a + 2 * bs : Nat) : Int) ∧ a ≤ n ∧ Hid (Od.Ph3 w blk off n L bs a wr)) (fun va _ _ => n - (RowKit.intOf va).toNat)
          case atStart => exact ⟨0, rfl, by first | (congr 1; done) | (congr 1; omega), Nat.zero_le _, HQ3.out⟩
          case round =>
            obtain ⟨a', rfl, rfl, ha', HP⟩ := hrel
            clear HQ3
            by_cases hlt : a' + 2 * bs ≤ n
            · have hC : Hid (Calls Try.prog 65 #[.slice (some ⟨blk, off, none⟩) n cap, .int .i64 (a' : Nat), .int .i64 ((a' + bs : Nat) : Int), .int .i64 ((a' + 2 * bs : Nat) : Int), .func (.func 54) #[] #[.pointer (some ⟨Od.Ck.kb, 0, none⟩)]] wr fun e w' => e = .returned (.tuple #[]) ∧ Od.Ph3 w blk off n L bs (a' + 2 * bs) w') := H3.out bs a' wr HP.out hb0 hlt
              clear H3 H4 HP
              obtain ⟨b, hb⟩ : ∃ b, b = a' + 2 * bs := ⟨_, rfl⟩
              rw [← hb] at hC hlt ⊢
              have HB : Hid (b = a' + 2 * bs) := hb
              have hb2 : a' < b := by omega
              obtain ⟨m, hm'⟩ : ∃ m, m = a' + bs := ⟨_, rfl⟩
              have e1 : (a' : Int) + (bs : Int) = (m : Int) := by omega
              rw [← hm'] at hC
              have hmn : m ≤ n := by omega
              clear hb hm'
              go_wp2_with fail
              refine hC.out.mono ?_
              rintro e w1 ⟨rfl, h⟩
              have HP1 : Hid (Od.Ph3 w blk off n L bs b w1) := h
              clear h hC
              go_wp2
              go_roundw
              case rel => exact ⟨b, rfl, by first | (congr 1; done) | (congr 1; omega), hlt, HP1.out⟩
              case measure => simp [RowKit.intOf]; omega
            · by_cases hm : a' + bs < n
              · have hC : Hid (Calls Try.prog 65 #[.slice (some ⟨blk, off, none⟩) n cap, .int .i64 (a' : Nat), .int .i64 ((a' + bs : Nat) : Int), .int .i64 (n : Nat), .func (.func 54) #[] #[.pointer (some ⟨Od.Ck.kb, 0, none⟩)]] wr fun e w' => e = .returned (.tuple #[]) ∧ Od.Ph2 w blk off n L (2 * bs) w') := H4.out bs a' wr HP.out hb0 (by omega) hm
                clear H3 H4 HP
                obtain ⟨m, hm'⟩ : ∃ m, m = a' + bs := ⟨_, rfl⟩
                have e1 : (a' : Int) + (bs : Int) = (m : Int) := by omega
                rw [← hm'] at hC hm
                clear hm'
                go_wp2_with fail
                refine hC.out.mono ?_
                rintro e w1 ⟨rfl, h⟩
                have HP1 : Hid (Od.Ph2 w blk off n L (2 * bs) w1) := h
                clear h hC
                go_wp2
                go_roundw
                case rel => exact ⟨2 * bs, by first | (congr 1; done) | (congr 1; omega), by omega, by omega, HP1.out⟩
                case measure => simp [RowKit.intOf]; omega
              · have HP1 : Hid (Od.Ph2 w blk off n L (2 * bs) wr) := HP.out.over hb0 (by omega)
                clear H3 H4 HP
                go_wp2
                go_roundw
                case rel => exact ⟨2 * bs, by first | (congr 1; done) | (congr 1; omega), by omega, by omega, HP1.out⟩
                case measure => simp [RowKit.intOf]; omega
        · have HD : Hid (∃ S', Od.Srt S' ∧ Od.Eqv L S' ∧ Od.In w blk off n S' wr) := HQ.out.done hb0 (by omega)
          clear HQ H3 H4
          go_wp2
          go_end0
          exact ⟨rfl, HD.out⟩

set_option maxHeartbeats 400000 in
theorem odSort_any [Od.Ck] (w : World) (blk off n cap : Nat) (L : List Int) (HK : Hid (Od.Con w blk)) (hok : ∀ x ∈ L, Od.ok x) (h0 : Holds Zi.en w blk off L.toArray) (hn : L.length = n) (hsz : n < 1152921504606846976) :
    Calls Try.prog 43 #[.slice (some ⟨blk, off, none⟩) n cap, .func (.func 54) #[] #[.pointer (some ⟨Od.Ck.kb, 0, none⟩)]] w fun e w' => e = .returned (.tuple #[]) ∧ ∃ S', Od.Srt S' ∧ Od.Eqv L S' ∧ Od.In w blk off n S' w' := by
  have hC : Hid (Calls Try.prog 56 #[.slice (some ⟨blk, off, none⟩) n cap, .int .i64 n, .func (.func 54) #[] #[.pointer (some ⟨Od.Ck.kb, 0, none⟩)]] w fun e w' => e = .returned (.tuple #[]) ∧ ∃ S', Od.Srt S' ∧ Od.Eqv L S' ∧ Od.In w blk off n S' w') := odStable_any w blk off n cap L HK hok h0 hn hsz
  clear h0 hn
  go_enter Try.func43, Try.ntmps43
  go_wp2_with fail
  refine hC.out.mono ?_
  rintro e w1 ⟨rfl, h⟩
  have HD : Hid (∃ S', Od.Srt S' ∧ Od.Eqv L S' ∧ Od.In w blk off n S' w1) := h
  clear h hC
  go_wp2
  go_end0
  exact ⟨rfl, HD.out⟩

end Go.Proofs.Ytbclmmkphjknaaa

/-
  A stretch of a row of one's own is put in order: what the row is then.
-/

namespace Go.Proofs.Ytbclmmkphjknaaa.Od
open Go.RowKit Go.Sort
set_option linter.unusedSimpArgs false
set_option linter.unusedVariables false

theorem own_sub {w : World} {F0 g n cap : Nat} {D M R : List Int} (h : w.ownsRow F0 3 1 (.slice (some ⟨g, 0, none⟩) n cap) n (Od.longs (D ++ M ++ R))) :
    Holds Zi.en w g D.length M.toArray ∧ ∀ (w' : World) (M' : List Int), Zi.At w g D.length M.length M'.toArray w' → w'.ownsRow F0 3 1 (.slice (some ⟨g, 0, none⟩) n cap) n (Od.longs (D ++ M' ++ R)) ∧ Below F0 w w' := by
  obtain ⟨hx, h2⟩ := h
  rcases h2 with ⟨e0, _⟩ | ⟨g', cap', cur, e0, hb, hg, hn, hm, hs, ht⟩
  · cases e0
  · injection e0 with e1 _ e3
    injection e1 with e1
    injection e1 with e1
    subst e1; subst e3
    have hlen : D.length + M.length + R.length = n := by
      have := hx
      simp [Od.longs] at this
      omega
    have hcur : ∀ k, k < n → cur[k]? = (Od.longs (D ++ M ++ R))[k]? := fun k hk => by
      rw [← ht, List.getElem?_take, if_pos (by omega), Array.getElem?_toList]
    refine ⟨fun j hj => ?_, fun w' M' hA => ?_⟩
    · have hj' : j < M.length := by simpa using hj
      refine ⟨?_, frozen_of_row w g _ _ _ hg⟩
      have h3 := hcur (D.length + j) (by omega)
      have h4 : (Od.longs (D ++ M ++ R))[D.length + j]? = some (.int .i64 M[j]) := by
        unfold Od.longs
        rw [List.getElem?_map, List.append_assoc, List.getElem?_append_right (by omega), Nat.add_sub_cancel_left, List.getElem?_append_left hj', List.getElem?_eq_getElem hj']
        rfl
      rw [World.cell?]
      simp only [hg]
      rw [h3, h4]
      simp [hj']
    · obtain ⟨hsz, q, rfl⟩ := hA
      have hml : M'.length = M.length := by simpa using hsz
      refine ⟨⟨by simp [Od.longs]; omega, .inr ⟨g, cap, putCells Zi.en D.length M'.toArray cur, rfl, hb, ?_, hn, hm, by simpa [putCells] using hs, ?_⟩⟩, ?_⟩
      · simp [putRow, mapBlock, Sort.ahead, Array.getElem?_modify, hg, onCells]
      · apply List.ext_getElem?
        intro k
        rw [List.getElem?_take]
        by_cases hk : k < n * 1
        · rw [if_pos hk, Array.getElem?_toList]
          have hk' : k < n := by omega
          have h3 := hcur k hk'
          have hkc : k < cur.size := by omega
          simp only [putCells, Array.getElem?_mapIdx]
          rw [h3]
          unfold Od.longs
          simp only [List.getElem?_map]
          by_cases h1 : k < D.length
          · rw [List.append_assoc, List.getElem?_append_left h1, List.append_assoc, List.getElem?_append_left h1, List.getElem?_eq_getElem h1]
            simp [show ¬ (D.length ≤ k) by omega]
          · by_cases h2 : k < D.length + M.length
            · rw [List.append_assoc, List.getElem?_append_right (by omega), List.getElem?_append_left (by omega), List.append_assoc, List.getElem?_append_right (by omega), List.getElem?_append_left (by omega), List.getElem?_eq_getElem (show k - D.length < M.length by omega), List.getElem?_eq_getElem (show k - D.length < M'.length by omega)]
              simp only [Option.map_some]
              rw [if_pos ⟨by omega, by simp; omega⟩]
              simp [show k - D.length < M'.length by omega]
            · rw [List.append_assoc, List.getElem?_append_right (by omega), List.getElem?_append_right (by omega), List.append_assoc, List.getElem?_append_right (by omega), List.getElem?_append_right (by omega), hml]
              cases R[k - D.length - M.length]? with
              | none => rfl
              | some z =>
                simp only [Option.map_some]
                rw [if_neg (by simp; omega)]
        · rw [if_neg hk, List.getElem?_eq_none (by simp [Od.longs]; omega)]
      · refine ⟨rfl, rfl, rfl, by simp [putRow, mapBlock, Sort.ahead], fun k hk => ?_⟩
        simp only [putRow, mapBlock, Sort.ahead, Array.getElem?_modify]
        rw [if_neg (by omega)]
end Go.Proofs.Ytbclmmkphjknaaa.Od
