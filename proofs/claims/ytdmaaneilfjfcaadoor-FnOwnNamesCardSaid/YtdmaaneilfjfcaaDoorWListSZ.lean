/-
  The walks of the given l7List and l7Changes. Conditions: both graphs are valid and lie in memory.
-/
import Derived.Test.YtdmaaneilfjfcaaDoorWSpecItemsZ
import Derived.Test.YtdmaaneilfjfcaaDoorJEZ
import Derived.Deep.RegionHeld3
namespace Go.Proofs.YtdmaaneilfjfcaaDoor
open Go Go.RowKit
end Go.Proofs.YtdmaaneilfjfcaaDoor
