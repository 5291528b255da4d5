/-
  The walks of the given BadNaming and IsGoodNaming. Condition: the argument's memory holds the graph. (gengdns.py writes this text.)
-/
import Derived.Test.YtgbbhiihhcdpbaaGreatDoorWRenS2Z
import Derived.Test.YtgbbhiihhcdpbaaGreatDoorJGZ
namespace Go.Proofs.YtgbbhiihhcdpbaaGreatDoor
open Go Go.RowKit
end Go.Proofs.YtgbbhiihhcdpbaaGreatDoor
