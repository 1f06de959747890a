/-
  What the document's Of, and its operators, tell.
-/
import Derived.Test.YtginejblmkiamaaSEdges
import Derived.Test.YtginejblmkiamaaSRefWrong
import Derived.Deep.RegionHeld3
import Derived.Deep.DrawnRows
namespace Go.Proofs.Ytginejblmkiamaa
open Go.RowKit

attribute [local go_sem ↓] Go.wp_at_zero Go.wp_at_succ

set_option maxHeartbeats 400000 in
/-- the closure of Of: whether the spans have it -/
theorem of1h_any (bs : Nat) (v : Value) (l : List S.Sp) (w W : World) (r : Int) (R : S.Rd w v l) (hl : l.length ≤ 17592186043904) (hbs : bs < w.heap.size) (hc : w.cell? ⟨bs, 0, none⟩ = some v) (hB : Below w.heap.size w W) :
    Calls Try.prog 41 (#[.int .i32 r] ++ #[.pointer (some ⟨bs, 0, none⟩)]) W fun e w' => e = .returned (.bool (S.memb l r)) ∧ Below W.heap.size W w' := by
  have hh := refhas_any W v l r (R.below hB (Nat.le_refl _)) (by omega)
  have c := hc
  rw [← hB.cell (p := ⟨bs, 0, none⟩) hbs] at c
  obtain ⟨aa, ca, rfl⟩ := R.len
  clear R hc
  show Calls Try.prog 41 #[.int .i32 r, .pointer (some ⟨bs, 0, none⟩)] W _
  generalize S.memb l r = mm at *
  go_enter Try.func41, Try.ntmps41
  go_wp2_with fail
  refine hh.mono ?_
  clear hh
  rintro e w1 ⟨rfl, b1⟩
  go_wp2
  go_ret
  exact ⟨rfl, b1⟩

set_option maxHeartbeats 400000 in
/-- the closure of Do for ^ -/
theorem do1h_any (bs : Nat) (v : Value) (l : List S.Sp) (w W : World) (r : Int) (R : S.Rd w v l) (hl : l.length ≤ 17592186043904) (hbs : bs < w.heap.size) (hc : w.cell? ⟨bs, 0, none⟩ = some v) (hB : Below w.heap.size w W) :
    Calls Try.prog 46 (#[.int .i32 r] ++ #[.pointer (some ⟨bs, 0, none⟩)]) W fun e w' => e = .returned (.bool (!S.memb l r)) ∧ Below W.heap.size W w' := by
  have hh := refhas_any W v l r (R.below hB (Nat.le_refl _)) (by omega)
  have c := hc
  rw [← hB.cell (p := ⟨bs, 0, none⟩) hbs] at c
  obtain ⟨aa, ca, rfl⟩ := R.len
  clear R hc
  show Calls Try.prog 46 #[.int .i32 r, .pointer (some ⟨bs, 0, none⟩)] W _
  generalize S.memb l r = mm at *
  go_enter Try.func46, Try.ntmps46
  go_wp2_with fail
  refine hh.mono ?_
  clear hh
  rintro e w1 ⟨rfl, b1⟩
  go_wp2
  go_ret
  exact ⟨rfl, b1⟩

/-- what the operators ask -/
def opF (op : Int) (x y : Bool) : Bool := if op = 124 then x || y else if op = 38 then x && y else x && !y

set_option maxHeartbeats 1000000 in
/-- the closure of Do for the other operators -/
theorem do2h_any (ba bb bo : Nat) (va vb : Value) (a b : List S.Sp) (op : Int) (hop : op = 124 ∨ op = 38 ∨ op = 45) (w W : World) (r : Int) (Ra : S.Rd w va a) (Rb : S.Rd w vb b) (hla : a.length ≤ 17592186043904) (hlb : b.length ≤ 17592186043904)
    (h1 : ba < w.heap.size) (h2 : bb < w.heap.size) (h3 : bo < w.heap.size) (c1 : w.cell? ⟨ba, 0, none⟩ = some va) (c2 : w.cell? ⟨bb, 0, none⟩ = some vb) (c3 : w.cell? ⟨bo, 0, none⟩ = some (.int .u8 op)) (hB : Below w.heap.size w W) :
    Calls Try.prog 47 (#[.int .i32 r] ++ #[.pointer (some ⟨ba, 0, none⟩), .pointer (some ⟨bb, 0, none⟩), .pointer (some ⟨bo, 0, none⟩)]) W fun e w' => e = .returned (.bool (opF op (S.memb a r) (S.memb b r))) ∧ Below W.heap.size W w' := by
  have hhA : Hid (∀ X, Below W.heap.size W X → Calls Try.prog 18 #[va, .int .i32 r] X fun e w' => e = .returned (.bool (S.memb a r)) ∧ Below X.heap.size X w') := fun X hX => refhas_any X va a r (Ra.below (hB.trans (hX.mono hB.size)) (Nat.le_refl _)) (by omega)
  have hhB : Hid (∀ X, Below W.heap.size W X → Calls Try.prog 18 #[vb, .int .i32 r] X fun e w' => e = .returned (.bool (S.memb b r)) ∧ Below X.heap.size X w') := fun X hX => refhas_any X vb b r (Rb.below (hB.trans (hX.mono hB.size)) (Nat.le_refl _)) (by omega)
  have hs := hB.size
  rw [← hB.cell (p := ⟨ba, 0, none⟩) h1] at c1
  rw [← hB.cell (p := ⟨bb, 0, none⟩) h2] at c2
  rw [← hB.cell (p := ⟨bo, 0, none⟩) h3] at c3
  obtain ⟨aa, ca, rfl⟩ := Ra.len
  obtain ⟨ab, cb, rfl⟩ := Rb.len
  have k1 : ba < W.heap.size := by omega
  have k2 : bb < W.heap.size := by omega
  have k3 : bo < W.heap.size := by omega
  clear Ra Rb hB
  show Calls Try.prog 47 #[.int .i32 r, .pointer (some ⟨ba, 0, none⟩), .pointer (some ⟨bb, 0, none⟩), .pointer (some ⟨bo, 0, none⟩)] W _
  generalize S.memb a r = ma at *
  generalize S.memb b r = mb at *
  have BD : Hid (Below W.heap.size W W.drew) := below_drewN (Below.refl _ W) 1
  go_enter Try.func47, Try.ntmps47
  go_wp2
  go_region_held3 (fun w' => (w'.cell? ⟨ba, 0, none⟩ = some (.slice aa a.length ca) ∧ w'.cell? ⟨bb, 0, none⟩ = some (.slice ab b.length cb)) ∧ w'.cell? ⟨bo, 0, none⟩ = some (.int .u8 op))
    (first
      | exact kp2
      | exact kp1
      | (go_keep; done))
    (first
      | (go_at_call 18; refine (hhB.out _ bl1).mono ?_; rintro e w2 ⟨rfl, b2⟩; have bl2 : Below W.heap.size W w2 := bl1.trans (b2.mono bl1.size); have kp2 : (w2.cell? ⟨ba, 0, none⟩ = some (.slice aa a.length ca) ∧ w2.cell? ⟨bb, 0, none⟩ = some (.slice ab b.length cb)) ∧ w2.cell? ⟨bo, 0, none⟩ = some (.int .u8 op) := ⟨⟨by rw [bl2.cell (p := ⟨ba, 0, none⟩) k1]; exact c1, by rw [bl2.cell (p := ⟨bb, 0, none⟩) k2]; exact c2⟩, by rw [bl2.cell (p := ⟨bo, 0, none⟩) k3]; exact c3⟩)
      | (go_at_call 18; refine (hhA.out _ BD.out).mono ?_; rintro e w1 ⟨rfl, b1⟩; have bl1 : Below W.heap.size W w1 := BD.out.trans (b1.mono (by simp)); have kp1 : (w1.cell? ⟨ba, 0, none⟩ = some (.slice aa a.length ca) ∧ w1.cell? ⟨bb, 0, none⟩ = some (.slice ab b.length cb)) ∧ w1.cell? ⟨bo, 0, none⟩ = some (.int .u8 op) := ⟨⟨by rw [bl1.cell (p := ⟨ba, 0, none⟩) k1]; exact c1, by rw [bl1.cell (p := ⟨bb, 0, none⟩) k2]; exact c2⟩, by rw [bl1.cell (p := ⟨bo, 0, none⟩) k3]; exact c3⟩))
  have c4 := kp2.2
  have HB2 : Hid (Below W.heap.size W w2) := bl2
  clear kp1 kp2 b1 b2 bl1 bl2 c1 c2 c3 hhA hhB
  rcases hop with rfl | rfl | rfl
  · cases ma <;> cases mb <;> (go_wp2; go_ret; exact ⟨by simp [opF], HB2.out⟩)
  · cases ma <;> cases mb <;> (go_wp2; go_ret; exact ⟨by simp [opF], HB2.out⟩)
  · cases ma <;> cases mb <;> (go_wp2; go_ret; exact ⟨by simp [opF], HB2.out⟩)

end Go.Proofs.Ytginejblmkiamaa
