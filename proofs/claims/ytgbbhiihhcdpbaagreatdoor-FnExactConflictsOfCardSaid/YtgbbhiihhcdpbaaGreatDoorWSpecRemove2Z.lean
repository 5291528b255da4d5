/-
  The walks of the given l6Remove, l6RawRemoveItem and RemoveItem. Condition: the argument's memory holds the graph.
-/
import Derived.Test.YtgbbhiihhcdpbaaGreatDoorJCZ
namespace Go.Proofs.YtgbbhiihhcdpbaaGreatDoor
open Go Go.RowKit
end Go.Proofs.YtgbbhiihhcdpbaaGreatDoor
