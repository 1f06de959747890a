/-
  norm.Bare: a text without its marks.
-/
import Derived.Test.YtbclmmkphjknaaaNmApart
import Derived.Test.YtbclmmkphjknaaaNmDel
import Derived.Test.YtbclmmkphjknaaaNmRefBare
namespace Go.Proofs.Ytbclmmkphjknaaa
open Go.RowKit
set_option maxRecDepth 20000
set_option linter.unusedSimpArgs false
set_option linter.unusedVariables false

set_option maxHeartbeats 4000000 in
theorem nmBare_any (w : World) (v : Value) (l : List Int) (R : L.Rd w v .i32 l) (hl : l.length ≤ 140737488355328) :
    Calls Try.prog 14 #[v] w fun e w' => ∃ v', e = .returned (.tuple #[v', .int .i64 (Nm.bareF l).2]) ∧ w'.ownsRow w.heap.size 21 1 v' (Nm.bareF l).1.length (K.ints (Nm.bareF l).1) ∧ Below w.heap.size w w' := by
  have HT := nmApart_any w v l R hl
  obtain ⟨q, hq⟩ : ∃ q, q = Nm.bareF l := ⟨_, rfl⟩
  have HQ : Hid (q = Nm.bareF l) := hq
  rw [← hq]
  obtain ⟨ao, cap, rfl, _, _⟩ := R
  clear hq
  obtain ⟨q1, q2⟩ := q
  have hn := Nm.apart_len l
  unfold Nm.bareF at HQ
  obtain ⟨⟨t, te⟩, ht⟩ : ∃ p, p = Nm.apartF l := ⟨_, rfl⟩
  rw [← ht] at HT HQ hn
  simp only at HT HQ hn
  clear ht
  go_enter Try.func14, Try.ntmps14
  go_wp2_with fail
  refine HT.mono ?_
  clear HT
  rintro e w1 ⟨vt, rfl, own1, b1⟩
  obtain ⟨to_, tc, rfl, _, _⟩ := K.own_slice own1
  have HB1 : Hid (Below w.heap.size w w1) := b1
  by_cases he : te = 0
  · obtain ⟨fq, hfq⟩ : ∃ fq, fq = Nm.bare t := ⟨_, rfl⟩
    have hQ : (q1, q2) = (fq, 0) := by rw [hfq, HQ.out, if_neg (by simp [he])]
    have hD := nmDel_any w1 w.heap.size t.length tc to_ t own1 rfl (by omega) b1.size
    rw [← hfq] at hD
    obtain ⟨rfl, rfl⟩ := Prod.mk.inj hQ
    subst he
    clear HQ hQ b1 own1 hfq
    go_wp2_with fail
    refine hD.mono ?_
    clear hD
    rintro e w2 ⟨v2, rfl, own2, b2⟩
    obtain ⟨o2, c2, rfl, _, _⟩ := K.own_slice own2
    have HF : Hid (w2.ownsRow w.heap.size 21 1 (.slice o2 q1.length c2) q1.length (K.ints q1) ∧ Below w.heap.size w w2) := ⟨own2, HB1.out.trans b2⟩
    clear own2 b2 HB1
    go_wp2
    refine bodyPost_ret (v := .tuple #[.slice o2 q1.length c2, .int .i64 0]) (by simp [results, Try.results14, go_sem, *]) rfl ?_
    exact ⟨_, rfl, HF.out⟩
  · have hQ : (q1, q2) = ([], te) := by rw [HQ.out, if_pos he]
    obtain ⟨rfl, rfl⟩ := Prod.mk.inj hQ
    clear hQ
    clear HQ own1 b1
    go_wp2
    refine bodyPost_ret (v := .tuple #[.slice none 0 0, .int .i64 q2]) (by simp [results, Try.results14, go_sem, *]) rfl ?_
    exact ⟨_, rfl, World.ownsRow_nil _ _ _ _, HB1.out⟩

end Go.Proofs.Ytbclmmkphjknaaa
