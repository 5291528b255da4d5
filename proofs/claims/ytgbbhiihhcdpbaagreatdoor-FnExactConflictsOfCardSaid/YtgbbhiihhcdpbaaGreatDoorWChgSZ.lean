/-
  The walk of the given l7Changes. Conditions: both graphs are valid and lie in memory; whatever stands in the first one stands in the second one at the same place.
-/
import Derived.Test.YtgbbhiihhcdpbaaGreatDoorWListSZ
import Derived.Test.YtgbbhiihhcdpbaaGreatDoorJCZ
namespace Go.Proofs.YtgbbhiihhcdpbaaGreatDoor
open Go Go.RowKit
end Go.Proofs.YtgbbhiihhcdpbaaGreatDoor
