/-
  The walks of the given OwnNames, l13Find, l1Sorted, CountNames and IsFresh. Condition: the argument's memory holds the graph.
-/
import Derived.Test.YtjogfagjcpcihaaGreatDoorJFZ
import Derived.Test.YtjogfagjcpcihaaGreatDoorJBZ
import Derived.Test.YtjogfagjcpcihaaGreatDoorJAZ
namespace Go.Proofs.YtjogfagjcpcihaaGreatDoor
open Go Go.RowKit Sg
attribute [local go_sem ↓] field_name
end Go.Proofs.YtjogfagjcpcihaaGreatDoor
