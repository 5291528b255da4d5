/-
  The walks of the given BadNaming and IsGoodNaming. Condition: the argument's memory holds the graph. (gengdns.py writes this text.)
-/
import Derived.Test.YtjogfagjcpcihaaGreatDoorWRenS2Z
import Derived.Test.YtjogfagjcpcihaaGreatDoorJGZ
namespace Go.Proofs.YtjogfagjcpcihaaGreatDoor
open Go Go.RowKit
end Go.Proofs.YtjogfagjcpcihaaGreatDoor
