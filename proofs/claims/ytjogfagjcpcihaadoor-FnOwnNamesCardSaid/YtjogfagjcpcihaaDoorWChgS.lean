/-
  The walk of the given l7Changes. Conditions: both graphs are valid and lie in memory; whatever stands in the first one stands in the second one at the same place.
-/
import Derived.Test.YtjogfagjcpcihaaDoorWListS
import Derived.Test.YtjogfagjcpcihaaDoorJC
namespace Go.Proofs.YtjogfagjcpcihaaDoor
open Go Go.RowKit
/-- Whether an item means something else in another graph, where it stands at the same place. -/
def chgAB (ss tt : List Sc) (q : Nat × Nat × It) : Bool := !decide (meanIt ss q = meanAt tt (q.1 : Int) (q.2.1 : Int))
theorem chgA_eq (ss tt : List Sc) : chgA ss tt = filtL (chgAB ss tt) (placed 0 ss) := rfl
end Go.Proofs.YtjogfagjcpcihaaDoor
