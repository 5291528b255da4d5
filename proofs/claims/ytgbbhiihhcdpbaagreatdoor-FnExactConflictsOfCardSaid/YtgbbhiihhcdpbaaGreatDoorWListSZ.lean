/-
  The walks of the given l7List and l7Changes. Conditions: both graphs are valid and lie in memory.
-/
import Derived.Test.YtgbbhiihhcdpbaaGreatDoorWSpecItemsZ
import Derived.Test.YtgbbhiihhcdpbaaGreatDoorJEZ
import Derived.Deep.RegionHeld3
namespace Go.Proofs.YtgbbhiihhcdpbaaGreatDoor
open Go Go.RowKit
end Go.Proofs.YtgbbhiihhcdpbaaGreatDoor
