/-
  The walk of the given l7Changes. Conditions: both graphs are valid and lie in memory; whatever stands in the first one stands in the second one at the same place.
-/
import Derived.Test.YtifjljkbfabifaaDoorWListSZ
import Derived.Test.YtifjljkbfabifaaDoorJCZ
namespace Go.Proofs.YtifjljkbfabifaaDoor
open Go Go.RowKit
end Go.Proofs.YtifjljkbfabifaaDoor
