/-
  The set with which a rule begins.
-/
import Derived.Test.YtnalcmlhfmgfdaaQMath
namespace Go.Proofs.Ytnalcmlhfmgfdaa.K
open Go.Proofs.Ytnalcmlhfmgfdaa.S
def headS (r : Rule) : List Sp := r.source.headD []
def firstsL (l : List Rule) : List Sp := l.flatMap headS
end Go.Proofs.Ytnalcmlhfmgfdaa.K
