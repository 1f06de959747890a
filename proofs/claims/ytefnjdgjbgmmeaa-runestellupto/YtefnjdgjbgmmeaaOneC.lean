/-
  What scriptref1.One answers of any text and any place in it: by the model's own decoding.
-/
import Derived.Test.YtefnjdgjbgmmeaaOneB
namespace Go.Proofs.Ytefnjdgjbgmmeaa
open Go.RowKit

/-- as One answers: a spoilt byte is twice nothing -/
def oneD (x : Nat × Nat) : Nat × Nat := if M.bad x then (0, 0) else x

theorem get!_at (s : ByteArray) (i : Nat) (h : i < s.size) : (s.get! i).toNat = (s[i]'h).toNat := by
  have := get_at s i h
  rw [Nat.add_zero] at this
  rw [this]

theorem oneR_D (s : ByteArray) (i : Nat) : oneR (s.size - i) (s.get! i).toNat (s.get! (i + 1)).toNat (s.get! (i + 2)).toNat (s.get! (i + 3)).toNat = oneD (Utf8.decode s i) := by
  rw [Lib.decode_at]; rfl

theorem one_any (s : ByteArray) (i : Nat) (w : World) (hi : i < s.size) (hs : s.size ≤ 1099511627776) :
    Calls Try.prog 17 #[.string s, .int .i64 i] w fun e w' => e = .returned (.tuple #[.int .i32 ((oneD (Utf8.decode s i)).1 : Int), .int .i64 ((oneD (Utf8.decode s i)).2 : Int)]) ∧ Below w.heap.size w w' := by
  rw [← oneR_D s i, get!_at s i hi]
  by_cases h0 : ((s[i]'hi).toNat : Int) < 128
  · exact one_ascii s i _ _ _ w hi h0
  · by_cases h1 : ((s[i]'hi).toNat : Int) / 32 = 6 ∧ i + 1 < s.size
    · rw [get!_at s (i + 1) h1.2]
      exact one_two s i _ _ w hi h1.2 hs h1.1
    · by_cases h2 : ((s[i]'hi).toNat : Int) / 16 = 14 ∧ i + 2 < s.size
      · rw [get!_at s (i + 1) (by omega), get!_at s (i + 2) h2.2]
        exact one_three s i _ w hi _ h2.2 hs h2.1
      · by_cases h3 : ((s[i]'hi).toNat : Int) / 8 = 30 ∧ i + 3 < s.size
        · rw [get!_at s (i + 1) (by omega), get!_at s (i + 2) (by omega), get!_at s (i + 3) h3.2]
          exact one_four s i w hi _ _ h3.2 hs h3.1
        · exact one_none s i _ _ _ w hi hs h0 h1 h2 h3

end Go.Proofs.Ytefnjdgjbgmmeaa
