/-
  norm.Apart: the program's answer.
-/
import Derived.Test.YtbclmmkphjknaaaNmSorts
import Derived.Test.YtbclmmkphjknaaaNmApartF
import Derived.Test.YtbclmmkphjknaaaNmParting
import Derived.Test.YtbclmmkphjknaaaMText
namespace Go.Proofs.Ytbclmmkphjknaaa
open Go.RowKit Go.Shelf
set_option maxRecDepth 20000
set_option linter.unusedSimpArgs false
set_option linter.unusedVariables false


theorem nmSortMarks_any (w : World) (F0 : Nat) (v : Value) (ls : List Int) (own : w.ownsRow F0 21 1 v ls.length (K.ints ls)) (hl : ls.length ≤ 1000000) :
    Calls Try.prog 28 #[v] w fun e w' => e = .returned (.tuple #[]) ∧ w'.ownsRow F0 21 1 v (ls.foldl Nm.insR []).length (K.ints (ls.foldl Nm.insR [])) ∧ Below F0 w w' := by
  have hfl : (ls.foldl Nm.insR []).length = ls.length := by rw [Nm.fold_len]; simp
  rw [hfl]
  have own0 := own
  rcases own.2 with ⟨rfl, h0⟩ | ⟨g, cap, cur, rfl, hg, _, hn, hm, _⟩
  · have e : ls = [] := List.eq_nil_of_length_eq_zero h0
    subst e
    exact (nmSmEmpty w none 0).mono fun e w' ⟨h1, h2⟩ => ⟨h1, h2 ▸ own0, h2 ▸ Below.refl _ _⟩
  · exact nmSmSome w F0 g ls.length cap ls own0 rfl hl hn hm

set_option maxHeartbeats 4000000 in
theorem nmApart_any (w : World) (v : Value) (l : List Int) (R : L.Rd w v .i32 l) (hl : l.length ≤ 140737488355328) :
    Calls Try.prog 9 #[v] w fun e w' => ∃ v', e = .returned (.tuple #[v', .int .i64 (Nm.apartF l).2]) ∧ w'.ownsRow w.heap.size 21 1 v' (Nm.apartF l).1.length (K.ints (Nm.apartF l).1) ∧ Below w.heap.size w w' := by
  have HT : Hid (Calls Try.prog 26 #[v] w fun e w' => e = .returned (.int .i64 (K.textE l)) ∧ Below w.heap.size w w') := mText_any w v l R hl
  obtain ⟨q, hq⟩ : ∃ q, q = Nm.apartF l := ⟨_, rfl⟩
  have HQ : Hid (q = Nm.apartF l) := hq
  rw [← hq]
  have HR : Hid (L.Rd w v .i32 l) := R
  obtain ⟨ao, cap, rfl, _, _⟩ := R
  clear hq
  by_cases he : K.textE l = 0
  · obtain ⟨h4, hr⟩ := Nm.text_ok he
    rw [he] at HT
    have HRt : Hid (∀ r ∈ l, 0 ≤ r ∧ r ≤ 1114111) := hr
    have HE : Hid (K.textE l = 0) := he
    have eg : ∀ args w, (callFunc 45 args).run Try.prog w = .ok (.enter 45 args) w := enters_of Try.func45 (by kernel_rfl) rfl
    clear he hr
    go_enter Try.func9, Try.ntmps9
    go_wp2_with fail
    refine HT.out.mono ?_
    clear HT
    rintro e w1 ⟨rfl, b1⟩
    have HB1 : Hid (Below w.heap.size w w1) := b1
    clear b1
    go_wp2_with fail
    refine (nmParting_any w1).mono ?_
    rintro e w2 ⟨bm, bf, B, rfl, hP, b2⟩
    have HB2 : Hid (Below w.heap.size w w2) := HB1.out.trans (b2.mono HB1.out.size)
    have HP : Hid (Nm.Part w2 bm bf B) := hP
    clear hP b2 HB1
    go_wp2
    go_loopw [6, 17] (fun vt vi wr => ∃ (j : Nat) (vo : Value) (acc : List Int), vt = vo ∧ vi = .int .i64 j ∧ j ≤ l.length ∧ Hid (acc = (l.take j).flatMap Nm.fl) ∧ Hid (wr.ownsRow w2.heap.size 21 1 vo acc.length (K.ints acc) ∧ Below w2.heap.size w2 wr)) (fun _ vi _ => l.length - (intOf vi).toNat)
    case atStart => exact ⟨0, .slice none 0 0, [], rfl, rfl, Nat.zero_le _, rfl, World.ownsRow_nil _ _ _ _, Below.refl _ _⟩
    case round =>
      obtain ⟨j, vo, acc, hvo, rfl, hj, HA, HO⟩ := hrel
      obtain rfl := hvo.symm
      have hal : acc.length ≤ 12000 := by
        have := Nm.flat_len (l.take j)
        rw [← HA.out, List.length_take] at this
        omega
      have HBw : Hid (Below w.heap.size w wr) := HB2.out.trans (HO.out.2.mono HB2.out.size)
      by_cases hlt : j < l.length
      · obtain ⟨r, hr⟩ : ∃ r, l[j]? = some r := ⟨l[j], by simp [hlt]⟩
        obtain ⟨_, _, e', _, hc⟩ := HR.out
        obtain ⟨rfl, -, rfl⟩ := Value.slice.inj e'
        obtain ⟨b, off, rfl, hcell⟩ := hc (by intro h; subst h; simp at hlt)
        have c0 := hcell j r hr
        rw [← HBw.out.cell (p := ⟨b, off + j, none⟩) (L.block_lt c0)] at c0
        have hrb := HRt.out r (List.mem_of_getElem? hr)
        have hp := HP.out
        have hs2 := HO.out.2.size
        have hPw : Nm.Part wr bm bf B := hp.block (HO.out.2.block _ (lt_of_block hp.1)) (HO.out.2.block _ (lt_of_block hp.2.1)) (HO.out.2.block _ hp.2.2.lt)
        have hC := nmPart1_any 2 r wr bm bf B w2.heap.size vo acc (Nat.le_refl _) (Nm.deep_two r) (by unfold Nm.okI; omega) hPw (lt_of_block hp.1) (lt_of_block hp.2.1) hp.2.2.lt hs2 HO.out.1 (by omega)
        have HA2 : Hid (acc ++ Nm.full 2 r = (l.take (j + 1)).flatMap Nm.fl) := by
          show _ = _
          rw [List.take_add_one, hr, List.flatMap_append, ← HA.out]
          simp [Nm.fl]
        have HO2 : Hid (Below w2.heap.size w2 wr) := HO.out.2
        clear hr hc hcell hrb hp hPw HA HO e'
        go_wp2_with fail
        refine hC.mono ?_
        clear hC
        rintro e w3 ⟨v3, rfl, own3, b3, _, _⟩
        have HO3 : Hid (w3.ownsRow w2.heap.size 21 1 v3 (acc ++ Nm.full 2 r).length (K.ints (acc ++ Nm.full 2 r)) ∧ Below w2.heap.size w2 w3) := ⟨own3, HO2.out.trans b3⟩
        clear own3 b3 HO2
        go_wp2
        go_roundw
        case rel => exact ⟨j + 1, v3, acc ++ Nm.full 2 r, rfl, by go_num, by omega, HA2, HO3⟩
        case measure => simp [intOf]; omega
      · have e : j = l.length := by omega
        subst e
        have ha : acc = l.flatMap Nm.fl := by rw [HA.out, List.take_length]
        have hO := HO.out
        obtain ⟨xo, xc, rfl, hxc, hxm⟩ := K.own_slice hO.1
        by_cases hm : 4000 < acc.length
        · have hQ : q = ([], 4) := by rw [HQ.out]; unfold Nm.apartF; rw [if_neg (by rw [HE.out]; simp), if_pos (by rw [← ha]; exact hm)]
          subst hQ
          clear HA HO hO ha HR HP HB2 HQ HE HRt hxc hxm
          go_wp2
          refine bodyPost_ret (v := .tuple #[.slice none 0 0, .int .i64 4]) (by simp [results, Try.results9, go_sem, *]) rfl ?_
          exact ⟨_, rfl, World.ownsRow_nil _ _ _ _, HBw.out⟩
        · have hQ : q = (acc.foldl Nm.insR [], 0) := by rw [HQ.out]; unfold Nm.apartF; rw [if_neg (by rw [HE.out]; simp), if_neg (by rw [← ha]; exact hm), ← ha]
          have hS := nmSortMarks_any wr w2.heap.size _ acc hO.1 (by omega)
          obtain ⟨fq, hfq⟩ : ∃ fq, fq = acc.foldl Nm.insR [] := ⟨_, rfl⟩
          rw [← hfq] at hQ hS
          subst hQ
          clear HA HO hO ha HR HP HQ HE HRt hxc hxm hfq
          go_wp2_with fail
          refine hS.mono ?_
          clear hS
          rintro e w3 ⟨rfl, own3, b3⟩
          have HF : Hid (w3.ownsRow w.heap.size 21 1 (.slice xo acc.length xc) fq.length (K.ints fq) ∧ Below w.heap.size w w3) := ⟨L.owns_base own3 HB2.out.size, HBw.out.trans (b3.mono HB2.out.size)⟩
          clear own3 b3 HB2
          go_wp2
          refine bodyPost_ret (v := .tuple #[.slice xo acc.length xc, .int .i64 0]) (by simp [results, Try.results9, go_sem, *]) rfl ?_
          exact ⟨_, rfl, HF.out⟩
  · have hQ : q = ([], K.textE l) := by rw [HQ.out]; unfold Nm.apartF; rw [if_pos he]
    subst hQ
    obtain ⟨te, hte⟩ : ∃ te, te = K.textE l := ⟨_, rfl⟩
    rw [← hte] at HT he ⊢
    clear HQ HR hte
    go_enter Try.func9, Try.ntmps9
    go_wp2_with fail
    refine HT.out.mono ?_
    clear HT
    rintro e w1 ⟨rfl, b1⟩
    have HB1 : Hid (Below w.heap.size w w1) := b1
    clear b1
    go_wp2
    refine bodyPost_ret (v := .tuple #[.slice none 0 0, .int .i64 te]) (by simp [results, Try.results9, go_sem, *]) rfl ?_
    exact ⟨_, rfl, World.ownsRow_nil _ _ _ _, HB1.out⟩

end Go.Proofs.Ytbclmmkphjknaaa
