/-
  The walks of RemoveItem, given and impl. Conditions: the argument's memory holds the graph; the package-level errors hold errors.
-/
import Derived.Test.YtgbbhiihhcdpbaaGreatDoorWSpecRemove2Z
import Derived.Test.YtgbbhiihhcdpbaaGreatDoorWMarkRZ
namespace Go.Proofs.YtgbbhiihhcdpbaaGreatDoor
open Go Go.RowKit
end Go.Proofs.YtgbbhiihhcdpbaaGreatDoor
