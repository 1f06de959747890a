/-
  A script that is being made, in its box.
-/
import Derived.Test.YtchkcjaahjhbcaaVPutAny
import Derived.Test.YtchkcjaahjhbcaaVRule2
namespace Go.Proofs.Ytchkcjaahjhbcaa
open Go.RowKit
set_option linter.unusedVariables false
set_option linter.unusedSimpArgs false

namespace V
/-- a store into a top that no row lies in -/
theorem Moves.store {tops : List Nat} (w : World) {b : Nat} (i : Nat) (v : Value) (hb : b ∈ tops) : Moves tops w tops (w.setCell ⟨b, i, none⟩ v) :=
  ⟨(R.grown_set w b i v).size, fun k hk hn => heap_setCell_other w ⟨b, i, none⟩ k v fun e => hn (e ▸ hb), fun k hk => .inl hk, fun k hk => hk⟩
theorem PS.store {F : Nat} {tops : List Nat} {w : World} {vp : Value} {ps : List Pass} {rvs : List Value} (h : PS F tops w vp ps rvs) {b : Nat} (i : Nat) (v : Value) (hb : b ∈ tops) (hF : b < F) : PS F tops (w.setCell ⟨b, i, none⟩ v) vp ps rvs := by
  have hm := Moves.store w i v hb
  have ho : ∀ k, F ≤ k → (w.setCell ⟨b, i, none⟩ v).heap[k]? = w.heap[k]? := fun k hk => heap_setCell_other w ⟨b, i, none⟩ k v (by simp; omega)
  exact ⟨h.len, own_kept h.own fun g hg => ho g (h.own.lt g hg).1, fun j p rv h1 h2 => ⟨(h.rows j p rv h1 h2).1.step hm.1 hm.2.1 hm.2.2.1 fun g hg => ho g (h.rvlt (List.mem_of_getElem? h2) g hg).1, (h.rows j p rv h1 h2).2⟩, h.top, h.apart, h.diff, fun k hk => Nat.lt_of_lt_of_le (h.lt k hk) hm.1⟩

/-- the box of a script, what its cells mean -/
structure SS (F bs : Nat) (tops : List Nat) (w : World) (s : Script) (vo vp : Value) (rvs : List Value) : Prop where
  mem : bs ∈ tops
  lt : bs < F
  box : w.heap[bs]? = some (.cells #[.bool s.has, vo, vp] 43)
  only : Leaf tops w fun W => S.Rd W vo s.only
  few : s.only.length ≤ 17592186044160
  one : vo.oneCell' = true
  pas : PS F tops w vp s.passes rvs
  nil : s.passes = [] → vp = .slice none 0 0
theorem SS.below {F bs : Nat} {tops : List Nat} {w w' : World} {s : Script} {vo vp : Value} {rvs : List Value} (h : SS F bs tops w s vo vp rvs) (hb : Below w.heap.size w w') : SS F bs tops w' s vo vp rvs :=
  ⟨h.mem, h.lt, (hb.block bs (h.pas.lt bs h.mem)).trans h.box, h.only.moves (Moves.of_below hb), h.few, h.one, h.pas.below hb, h.nil⟩
/-- at the start -/
theorem SS.start (F bs : Nat) (tops : List Nat) (w : World) (hF : bs < F) (hb : w.heap[bs]? = some (.cells #[.bool false, .slice none 0 0, .slice none 0 0] 43)) (hm : bs ∈ tops) (ht : ∀ k ∈ tops, k < w.heap.size) : SS F bs tops w ⟨false, [], []⟩ (.slice none 0 0) (.slice none 0 0) [] :=
  ⟨hm, hF, hb, fun W _ _ => S.Rd.nil W, by simp, rfl, PS.start F w tops ht, fun _ => rfl⟩
/-- a filter -/
theorem SS.filter {F bs : Nat} {tops : List Nat} {w : World} {s : Script} {vo vp : Value} {rvs : List Value} (h : SS F bs tops w s vo vp rvs) (vo' : Value) (l : List S.Sp) (hl : Leaf tops w fun W => S.Rd W vo' l) (hn : l.length ≤ 17592186044160) (h1 : vo'.oneCell' = true) :
    SS F bs tops ((w.setCell ⟨bs, 0, none⟩ (.bool true)).setCell ⟨bs, 1, none⟩ vo') ⟨true, l, s.passes⟩ vo' vp rvs := by
  have b1 := heap_setCell_same w bs 0 _ _ (.bool true) h.box
  have b2 := heap_setCell_same _ bs 1 _ _ vo' b1
  exact ⟨h.mem, h.lt, b2, (hl.moves (Moves.store w 0 _ h.mem)).moves (Moves.store _ 1 _ h.mem), hn, h1, (h.pas.store 0 _ h.mem h.lt).store 1 _ h.mem h.lt, h.nil⟩
/-- other passes -/
theorem SS.passes {F bs : Nat} {tops tops' : List Nat} {w w' : World} {s : Script} {vo vp vp' : Value} {rvs rvs' : List Value} {ps : List Pass} (h : SS F bs tops w s vo vp rvs) (hm : Moves tops w tops' w') (hb : Below F w w') (hp : PS F tops' w' vp' ps rvs') (hne : ps ≠ []) :
    SS F bs tops' (w'.setCell ⟨bs, 2, none⟩ vp') ⟨s.has, s.only, ps⟩ vo vp' rvs' := by
  have hmem := hm.2.2.2 bs h.mem
  have bx : w'.heap[bs]? = some (.cells #[.bool s.has, vo, vp] 43) := (hb.block bs h.lt).trans h.box
  have b1 := heap_setCell_same w' bs 2 _ _ vp' bx
  exact ⟨hmem, h.lt, b1, (h.only.moves hm).moves (Moves.store w' 2 _ hmem), h.few, h.one, hp.store 2 _ hmem h.lt, fun e => absurd e hne⟩
theorem putP_ne (ps : List Pass) (r : K.Rule) : putP ps r ≠ [] := by
  unfold putP
  split
  · split <;> simp
  · simp
/-- a rule that is new hangs on no top -/
theorem Leaf.of_stays {tops : List Nat} {w w' : World} {Q : World → Prop} (h : R.Stays w.heap.size none w' Q) (ht : ∀ k ∈ tops, k < w.heap.size) (hs : w.heap.size ≤ w'.heap.size) : Leaf tops w' Q :=
  fun W h1 h2 => h W fun b hb1 hb2 _ => h2 b hb2 fun hm => by have := ht b hm; omega
end V

end Go.Proofs.Ytchkcjaahjhbcaa
