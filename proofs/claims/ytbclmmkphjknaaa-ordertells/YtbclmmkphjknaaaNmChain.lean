/-
  norm.Apart: the program's answer.
-/
import Derived.Test.YtbclmmkphjknaaaNmMap
import Derived.Test.YtbclmmkphjknaaaCnLess
import Derived.Test.YtbclmmkphjknaaaMText
import Derived.Test.YtbclmmkphjknaaaNmPairs
import Derived.Test.YtbclmmkphjknaaaKRight
namespace Go.Proofs.Ytbclmmkphjknaaa
open Go.RowKit Go.Shelf
set_option maxRecDepth 20000
set_option linter.unusedSimpArgs false
set_option linter.unusedVariables false


theorem nmSortMarks_any (w : World) (F0 : Nat) (v : Value) (ls : List Int) (own : w.ownsRow F0 21 1 v ls.length (K.ints ls)) (hl : ls.length ≤ 1000000) :
    Calls Try.prog 28 #[v] w fun e w' => e = .returned (.tuple #[]) ∧ w'.ownsRow F0 21 1 v (ls.foldl Nm.insR []).length (K.ints (ls.foldl Nm.insR [])) ∧ Below F0 w w' := by
  have hfl : (ls.foldl Nm.insR []).length = ls.length := by rw [Nm.fold_len]; simp
  rw [hfl]
  have own0 := own
  rcases own.2 with ⟨rfl, h0⟩ | ⟨g, cap, cur, rfl, hg, _, hn, hm, _⟩
  · have e : ls = [] := List.eq_nil_of_length_eq_zero h0
    subst e
    exact (nmSmEmpty w none 0).mono fun e w' ⟨h1, h2⟩ => ⟨h1, h2 ▸ own0, h2 ▸ Below.refl _ _⟩
  · exact nmSmSome w F0 g ls.length cap ls own0 rfl hl hn hm

set_option maxHeartbeats 4000000 in
theorem nmApart_any (w : World) (v : Value) (l : List Int) (R : L.Rd w v .i32 l) (hl : l.length ≤ 140737488355328) :
    Calls Try.prog 9 #[v] w fun e w' => ∃ v', e = .returned (.tuple #[v', .int .i64 (Nm.apartF l).2]) ∧ w'.ownsRow w.heap.size 21 1 v' (Nm.apartF l).1.length (K.ints (Nm.apartF l).1) ∧ Below w.heap.size w w' := by
  have HT : Hid (Calls Try.prog 26 #[v] w fun e w' => e = .returned (.int .i64 (K.textE l)) ∧ Below w.heap.size w w') := mText_any w v l R hl
  obtain ⟨q, hq⟩ : ∃ q, q = Nm.apartF l := ⟨_, rfl⟩
  have HQ : Hid (q = Nm.apartF l) := hq
  rw [← hq]
  have HR : Hid (L.Rd w v .i32 l) := R
  obtain ⟨ao, cap, rfl, _, _⟩ := R
  clear hq
  by_cases he : K.textE l = 0
  · obtain ⟨h4, hr⟩ := Nm.text_ok he
    rw [he] at HT
    have HRt : Hid (∀ r ∈ l, 0 ≤ r ∧ r ≤ 1114111) := hr
    have HE : Hid (K.textE l = 0) := he
    have eg : ∀ args w, (callFunc 45 args).run Try.prog w = .ok (.enter 45 args) w := enters_of Try.func45 (by kernel_rfl) rfl
    clear he hr
    go_enter Try.func9, Try.ntmps9
    go_wp2_with fail
    refine HT.out.mono ?_
    clear HT
    rintro e w1 ⟨rfl, b1⟩
    have HB1 : Hid (Below w.heap.size w w1) := b1
    clear b1
    go_wp2_with fail
    refine (nmParting_any w1).mono ?_
    rintro e w2 ⟨bm, bf, B, rfl, hP, b2⟩
    have HB2 : Hid (Below w.heap.size w w2) := HB1.out.trans (b2.mono HB1.out.size)
    have HP : Hid (Nm.Part w2 bm bf B) := hP
    clear hP b2 HB1
    go_wp2
    go_loopw [6, 17] (fun vt vi wr => ∃ (j : Nat) (vo : Value) (acc : List Int), vt = vo ∧ vi = .int .i64 j ∧ j ≤ l.length ∧ Hid (acc = (l.take j).flatMap Nm.fl) ∧ Hid (wr.ownsRow w2.heap.size 21 1 vo acc.length (K.ints acc) ∧ Below w2.heap.size w2 wr)) (fun _ vi _ => l.length - (intOf vi).toNat)
    case atStart => exact ⟨0, .slice none 0 0, [], rfl, rfl, Nat.zero_le _, rfl, World.ownsRow_nil _ _ _ _, Below.refl _ _⟩
    case round =>
      obtain ⟨j, vo, acc, hvo, rfl, hj, HA, HO⟩ := hrel
      obtain rfl := hvo.symm
      have hal : acc.length ≤ 12000 := by
        have := Nm.flat_len (l.take j)
        rw [← HA.out, List.length_take] at this
        omega
      have HBw : Hid (Below w.heap.size w wr) := HB2.out.trans (HO.out.2.mono HB2.out.size)
      by_cases hlt : j < l.length
      · obtain ⟨r, hr⟩ : ∃ r, l[j]? = some r := ⟨l[j], by simp [hlt]⟩
        obtain ⟨_, _, e', _, hc⟩ := HR.out
        obtain ⟨rfl, -, rfl⟩ := Value.slice.inj e'
        obtain ⟨b, off, rfl, hcell⟩ := hc (by intro h; subst h; simp at hlt)
        have c0 := hcell j r hr
        rw [← HBw.out.cell (p := ⟨b, off + j, none⟩) (L.block_lt c0)] at c0
        have hrb := HRt.out r (List.mem_of_getElem? hr)
        have hp := HP.out
        have hs2 := HO.out.2.size
        have hPw : Nm.Part wr bm bf B := hp.block (HO.out.2.block _ (lt_of_block hp.1)) (HO.out.2.block _ (lt_of_block hp.2.1)) (HO.out.2.block _ hp.2.2.lt)
        have hC := nmPart1_any 2 r wr bm bf B w2.heap.size vo acc (Nat.le_refl _) (Nm.deep_two r) (by unfold Nm.okI; omega) hPw (lt_of_block hp.1) (lt_of_block hp.2.1) hp.2.2.lt hs2 HO.out.1 (by omega)
        have HA2 : Hid (acc ++ Nm.full 2 r = (l.take (j + 1)).flatMap Nm.fl) := by
          show _ = _
          rw [List.take_add_one, hr, List.flatMap_append, ← HA.out]
          simp [Nm.fl]
        have HO2 : Hid (Below w2.heap.size w2 wr) := HO.out.2
        clear hr hc hcell hrb hp hPw HA HO e'
        go_wp2_with fail
        refine hC.mono ?_
        clear hC
        rintro e w3 ⟨v3, rfl, own3, b3, _, _⟩
        have HO3 : Hid (w3.ownsRow w2.heap.size 21 1 v3 (acc ++ Nm.full 2 r).length (K.ints (acc ++ Nm.full 2 r)) ∧ Below w2.heap.size w2 w3) := ⟨own3, HO2.out.trans b3⟩
        clear own3 b3 HO2
        go_wp2
        go_roundw
        case rel => exact ⟨j + 1, v3, acc ++ Nm.full 2 r, rfl, by go_num, by omega, HA2, HO3⟩
        case measure => simp [intOf]; omega
      · have e : j = l.length := by omega
        subst e
        have ha : acc = l.flatMap Nm.fl := by rw [HA.out, List.take_length]
        have hO := HO.out
        obtain ⟨xo, xc, rfl, hxc, hxm⟩ := K.own_slice hO.1
        by_cases hm : 4000 < acc.length
        · have hQ : q = ([], 4) := by rw [HQ.out]; unfold Nm.apartF; rw [if_neg (by rw [HE.out]; simp), if_pos (by rw [← ha]; exact hm)]
          subst hQ
          clear HA HO hO ha HR HP HB2 HQ HE HRt hxc hxm
          go_wp2
          refine bodyPost_ret (v := .tuple #[.slice none 0 0, .int .i64 4]) (by simp [results, Try.results9, go_sem, *]) rfl ?_
          exact ⟨_, rfl, World.ownsRow_nil _ _ _ _, HBw.out⟩
        · have hQ : q = (acc.foldl Nm.insR [], 0) := by rw [HQ.out]; unfold Nm.apartF; rw [if_neg (by rw [HE.out]; simp), if_neg (by rw [← ha]; exact hm), ← ha]
          have hS := nmSortMarks_any wr w2.heap.size _ acc hO.1 (by omega)
          obtain ⟨fq, hfq⟩ : ∃ fq, fq = acc.foldl Nm.insR [] := ⟨_, rfl⟩
          rw [← hfq] at hQ hS
          subst hQ
          clear HA HO hO ha HR HP HQ HE HRt hxc hxm hfq
          go_wp2_with fail
          refine hS.mono ?_
          clear hS
          rintro e w3 ⟨rfl, own3, b3⟩
          have HF : Hid (w3.ownsRow w.heap.size 21 1 (.slice xo acc.length xc) fq.length (K.ints fq) ∧ Below w.heap.size w w3) := ⟨L.owns_base own3 HB2.out.size, HBw.out.trans (b3.mono HB2.out.size)⟩
          clear own3 b3 HB2
          go_wp2
          refine bodyPost_ret (v := .tuple #[.slice xo acc.length xc, .int .i64 0]) (by simp [results, Try.results9, go_sem, *]) rfl ?_
          exact ⟨_, rfl, HF.out⟩
  · have hQ : q = ([], K.textE l) := by rw [HQ.out]; unfold Nm.apartF; rw [if_pos he]
    subst hQ
    obtain ⟨te, hte⟩ : ∃ te, te = K.textE l := ⟨_, rfl⟩
    rw [← hte] at HT he ⊢
    clear HQ HR hte
    go_enter Try.func9, Try.ntmps9
    go_wp2_with fail
    refine HT.out.mono ?_
    clear HT
    rintro e w1 ⟨rfl, b1⟩
    have HB1 : Hid (Below w.heap.size w w1) := b1
    clear b1
    go_wp2
    refine bodyPost_ret (v := .tuple #[.slice none 0 0, .int .i64 te]) (by simp [results, Try.results9, go_sem, *]) rfl ?_
    exact ⟨_, rfl, World.ownsRow_nil _ _ _ _, HB1.out⟩

end Go.Proofs.Ytbclmmkphjknaaa

/-
  append(append(append([]rune{}, out[:k]...), x), out[k:]...), in each order that Go may take.
-/
namespace Go.Proofs.Ytbclmmkphjknaaa.Nm
open Go.RowKit
set_option linter.unusedSimpArgs false
set_option linter.unusedVariables false

/-- one append -/
theorem ap {W : World} {F : Nat} {v : Value} {t : List Int} (own : W.ownsRow F 21 1 v t.length (K.ints t)) {vx : Value} {zs : List Int} (hx : L.Rd W vx .i32 zs) (hl : t.length + zs.length ≤ 1000000) (hF : F ≤ W.heap.size) :
    ∃ v' w', (∀ ty, (Builtin.append_ #[22, 22] ty #[v, vx]).run Try.prog W = .ok v' w') ∧ w'.ownsRow F 21 1 v' (t ++ zs).length (K.ints (t ++ zs)) ∧ (∀ b, b < W.heap.size → v.ownBlock ≠ some b → w'.heap[b]? = W.heap[b]?) ∧ W.heap.size ≤ w'.heap.size ∧ Below F W w' ∧ (v'.ownBlock = v.ownBlock ∨ ∃ k, v'.ownBlock = some k ∧ W.heap.size ≤ k) := by
  obtain ⟨v', w', run, own', gr, hn⟩ := K.app_rd W F v t own vx zs hx (by omega) hF
  exact ⟨v', w', run, own', kept_of gr, gr.size, (Below.refl _ W).grown gr hF fun k hk => (own.lt k hk).1, hn⟩
/-- the parts of a row of one's own, as slices of it -/
def sB (xo : Option Addr) (N xc k : Nat) : Value := .slice (if xc = k then xo else Option.map (fun x : Addr => x.add k) xo) (N - k) (xc - k)
theorem parts {W : World} {F N xc : Nat} {xo : Option Addr} {A B : List Int} (h : W.ownsRow F 21 1 (.slice xo N xc) N (K.ints (A ++ B))) :
    L.Rd W (.slice xo A.length xc) .i32 A ∧ L.Rd W (sB xo N xc A.length) .i32 B := by
  have hN : N = A.length + B.length := by
    have := h.1
    simp [K.ints] at this
    omega
  rcases h.2 with ⟨e, h0⟩ | ⟨g, cap, cur, e, hg, hb, hn, hm, hs, ht⟩
  · have e1 := e
    simp only [Value.slice.injEq] at e1
    obtain ⟨rfl, -, rfl⟩ := e1
    have hA : A = [] := List.eq_nil_of_length_eq_zero (by omega)
    have hB : B = [] := List.eq_nil_of_length_eq_zero (by omega)
    subst hA hB
    exact ⟨⟨none, 0, rfl, fun _ => rfl, fun h => absurd rfl h⟩, ⟨none, 0, by unfold sB; simp [h0], fun _ => rfl, fun h => absurd rfl h⟩⟩
  · have e1 := e
    simp only [Value.slice.injEq] at e1
    obtain ⟨rfl, -, rfl⟩ := e1
    have hc : ∀ j z, (A ++ B)[j]? = some z → W.cell? ⟨g, j, none⟩ = some (.int .i32 z) := fun j z hj => by
      have := h.cells (g := g) rfl j (.int .i32 z) (by unfold K.ints; rw [List.getElem?_map, hj]; rfl)
      rwa [L.addr_add, Nat.zero_add] at this
    refine ⟨⟨_, _, rfl, fun e => by (cases e), fun _ => ⟨g, 0, rfl, fun j z hj => by
      rw [Nat.zero_add]
      exact hc j z (by rw [List.getElem?_append_left (List.getElem?_eq_some_iff.1 hj).1]; exact hj)⟩⟩, ?_⟩
    unfold sB
    by_cases hk : xc = A.length
    · have hB : B = [] := List.eq_nil_of_length_eq_zero (by omega)
      subst hB
      rw [if_pos hk]
      exact ⟨_, _, by rw [show N - A.length = ([] : List Int).length by simp at hN ⊢; omega], fun e => by (cases e), fun h => absurd rfl h⟩
    · rw [if_neg hk, Option.map_some, L.addr_add, Nat.zero_add]
      exact ⟨_, _, by rw [show N - A.length = B.length by omega], fun e => by (cases e), fun _ => ⟨g, A.length, rfl, fun j z hj => hc _ z (by rw [List.getElem?_append_right (by omega), Nat.add_sub_cancel_left]; exact hj)⟩⟩
/-- where the empty slice is laid ahead of the first append, the rune's too -/
theorem chain {W : World} {F G N xc eb xb : Nat} {xo : Option Addr} {A B : List Int} {x : Int} (hO : W.ownsRow G 21 1 (.slice xo N xc) N (K.ints (A ++ B))) (hE : W.ownsRow F 21 1 (.slice (some ⟨eb, 0, none⟩) 0 0) ([] : List Int).length (K.ints []))
    (hx : W.cell? ⟨xb, 0, none⟩ = some (.int .i32 x)) (hne : xb ≠ eb) (ho : ∀ b, (Value.slice xo N xc).ownBlock = some b → b < W.heap.size ∧ b ≠ eb) (hF : F ≤ W.heap.size) (hl : N ≤ 100000) :
    ∃ v1 w1 v2 w2 v3 w3, (∀ ty, (Builtin.append_ #[22, 22] ty #[.slice (some ⟨eb, 0, none⟩) 0 0, .slice xo A.length xc]).run Try.prog W = .ok v1 w1) ∧ (∀ ty, (Builtin.append_ #[22, 22] ty #[v1, .slice (some ⟨xb, 0, none⟩) 1 1]).run Try.prog w1 = .ok v2 w2) ∧ (∀ ty, (Builtin.append_ #[22, 22] ty #[v2, sB xo N xc A.length]).run Try.prog w2 = .ok v3 w3) ∧ w3.ownsRow F 21 1 v3 (A ++ x :: B).length (K.ints (A ++ x :: B)) ∧ Below F W w3 := by
  have hN : N = A.length + B.length := by
    have := hO.1
    simp [K.ints] at this
    omega
  have hxl := L.block_lt hx
  obtain ⟨v1, w1, r1, o1, k1, s1, b1, n1⟩ := ap hE (parts hO).1 (by simp; omega) hF
  rw [List.nil_append] at o1
  have hv0 : (Value.slice (some ⟨eb, 0, none⟩) 0 0).ownBlock = some eb := rfl
  have hx1 : w1.cell? ⟨xb, 0, none⟩ = some (.int .i32 x) := (cell_eq (k1 xb hxl (by rw [hv0]; exact fun e => hne (Option.some.inj e).symm))).trans hx
  have hO1 : w1.ownsRow G 21 1 (.slice xo N xc) N (K.ints (A ++ B)) := Al.held hO fun q hq hlt => k1 q hlt (by rw [hv0]; exact fun e => (ho q hq).2 (Option.some.inj e).symm)
  obtain ⟨v2, w2, r2, o2, k2, s2, b2, n2⟩ := ap o1 (rd1 hx1) (by simp; omega) (Nat.le_trans hF s1)
  have hnb : ∀ q, (Value.slice xo N xc).ownBlock = some q → q < w1.heap.size ∧ v1.ownBlock ≠ some q := fun q hq => by
    obtain ⟨h1, h2⟩ := ho q hq
    refine ⟨by omega, fun e => ?_⟩
    rcases n1 with n1 | ⟨k, n1, h3⟩
    · rw [n1, hv0] at e; exact h2 (Option.some.inj e).symm
    · rw [n1] at e; have := Option.some.inj e; omega
  have hO2 : w2.ownsRow G 21 1 (.slice xo N xc) N (K.ints (A ++ B)) := Al.held hO1 fun q hq hlt => k2 q hlt (hnb q hq).2
  obtain ⟨v3, w3, r3, o3, k3, s3, b3, n3⟩ := ap o2 (parts hO2).2 (by simp; omega) (Nat.le_trans hF (Nat.le_trans s1 s2))
  refine ⟨v1, w1, v2, w2, v3, w3, r1, r2, r3, ?_, b1.trans (b2.trans b3)⟩
  have e : A ++ x :: B = A ++ [x] ++ B := by simp
  rw [e]; exact o3
/-- where the rune's slice is laid behind the first append -/
theorem chain3 {W : World} {F G N xc eb : Nat} {xo : Option Addr} {A B : List Int} {x : Int} (hO : W.ownsRow G 21 1 (.slice xo N xc) N (K.ints (A ++ B))) (hE : W.ownsRow F 21 1 (.slice (some ⟨eb, 0, none⟩) 0 0) ([] : List Int).length (K.ints []))
    (ho : ∀ b, (Value.slice xo N xc).ownBlock = some b → b < W.heap.size ∧ b ≠ eb) (hF : F ≤ W.heap.size) (hl : N ≤ 100000) :
    ∃ v1 w1 v2 w2 v3 w3, (∀ ty, (Builtin.append_ #[22, 22] ty #[.slice (some ⟨eb, 0, none⟩) 0 0, .slice xo A.length xc]).run Try.prog W = .ok v1 w1) ∧ (∀ ty, (Builtin.append_ #[22, 22] ty #[v1, .slice (some ⟨w1.heap.size, 0, none⟩) 1 1]).run Try.prog (w1.alloc (.cells #[.int .i32 x] 21)) = .ok v2 w2) ∧ (∀ ty, (Builtin.append_ #[22, 22] ty #[v2, sB xo N xc A.length]).run Try.prog w2 = .ok v3 w3) ∧ w3.ownsRow F 21 1 v3 (A ++ x :: B).length (K.ints (A ++ x :: B)) ∧ Below F W w3 := by
  have hN : N = A.length + B.length := by
    have := hO.1
    simp [K.ints] at this
    omega
  obtain ⟨v1, w1, r1, o1, k1, s1, b1, n1⟩ := ap hE (parts hO).1 (by simp; omega) hF
  rw [List.nil_append] at o1
  have hv0 : (Value.slice (some ⟨eb, 0, none⟩) 0 0).ownBlock = some eb := rfl
  have hO1 : w1.ownsRow G 21 1 (.slice xo N xc) N (K.ints (A ++ B)) := Al.held hO fun q hq hlt => k1 q hlt (by rw [hv0]; exact fun e => (ho q hq).2 (Option.some.inj e).symm)
  obtain ⟨v2, w2, r2, o2, k2, s2, b2, n2⟩ := app1x o1 (Nat.le_trans hF s1) (by omega) x
  have hnb : ∀ q, (Value.slice xo N xc).ownBlock = some q → q < w1.heap.size ∧ v1.ownBlock ≠ some q := fun q hq => by
    obtain ⟨h1, h2⟩ := ho q hq
    refine ⟨by omega, fun e => ?_⟩
    rcases n1 with n1 | ⟨k, n1, h3⟩
    · rw [n1, hv0] at e; exact h2 (Option.some.inj e).symm
    · rw [n1] at e; have := Option.some.inj e; omega
  have hO2 : w2.ownsRow G 21 1 (.slice xo N xc) N (K.ints (A ++ B)) := Al.held hO1 fun q hq hlt => k2 q hlt (hnb q hq).2
  obtain ⟨v3, w3, r3, o3, k3, s3, b3, n3⟩ := ap o2 (parts hO2).2 (by simp; omega) (Nat.le_trans hF (Nat.le_trans s1 s2))
  refine ⟨v1, w1, v2, w2, v3, w3, r1, r2, r3, ?_, b1.trans (b2.trans b3)⟩
  have e : A ++ x :: B = A ++ [x] ++ B := by simp
  rw [e]; exact o3
end Go.Proofs.Ytbclmmkphjknaaa.Nm
