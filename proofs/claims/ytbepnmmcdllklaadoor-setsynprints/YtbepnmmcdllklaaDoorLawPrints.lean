/-
  scriptlaw3.SetsynPrints answers true, for every slice of spans.
-/
import Derived.Test.YtbepnmmcdllklaaDoorTRefPrint
namespace Go.Proofs.YtbepnmmcdllklaaDoor
open Go.RowKit

set_option maxHeartbeats 1000000 in
theorem prints_any (w : World) (v : Value) (l : List S.Sp) (R : S.Rd w v l) (hf : S.Fit l) (hT : T.Tz w) :
    Calls Tryd.prog 3 #[v] w fun e w' => e = .returned (.bool true) ∧ Below w.heap.size w w' := by
  have HR : Hid (S.Rd w v l) := R
  obtain ⟨ao, cap, rfl⟩ := R.len
  clear R
  go_enter Tryd.func3, Tryd.ntmps3
  go_wp2_with fail
  refine (print_any _ _ l HR.out hf hT).mono ?_
  have HP : ∃ t, T.prE l = .tuple #[.string t, .int .i64 (S.wrongE l)] := ⟨_, rfl⟩
  obtain ⟨t, ht⟩ := HP
  rw [ht]
  rintro e w1 ⟨rfl, b1⟩
  have HT : Hid _ := ht
  clear ht
  have R1 : Hid (S.Rd w1 (.slice ao l.length cap) l) := HR.out.below b1 (Nat.le_refl _)
  generalize hz : S.wrongE l = z at HT ⊢
  go_wp2_with fail
  refine (refprint_any _ _ l R1.out hf).mono ?_
  rw [HT.out]
  rintro e w2 ⟨rfl, b2⟩
  go_wp2
  all_goals go_ret
  all_goals exact ⟨rfl, b1.trans (b2.mono b1.size)⟩

end Go.Proofs.YtbepnmmcdllklaaDoor
