/-
  The walks of the given l7List and l7Changes. Conditions: both graphs are valid and lie in memory.
-/
import Derived.Test.YtifjljkbfabifaaDoorWSpecItemsZ
import Derived.Test.YtifjljkbfabifaaDoorJEZ
import Derived.Deep.RegionHeld3
namespace Go.Proofs.YtifjljkbfabifaaDoor
open Go Go.RowKit
end Go.Proofs.YtifjljkbfabifaaDoor
