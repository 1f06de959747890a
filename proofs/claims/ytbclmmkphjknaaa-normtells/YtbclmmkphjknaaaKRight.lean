/-
  Whether all runes are right; what is wrong with a text.
-/
import Derived.Test.YtbclmmkphjknaaaMath
namespace Go.Proofs.Ytbclmmkphjknaaa.K

def allR (l : List Int) : Bool := l.all M.right
def textE (l : List Int) : Int := if 4000 < l.length then 4 else if allR l = true then 0 else 3

end Go.Proofs.Ytbclmmkphjknaaa.K
