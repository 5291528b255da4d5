/-
  The walks of the given BadNaming and IsGoodNaming. Condition: the argument's memory holds the graph. (gengdns.py writes this text.)
-/
import Derived.Test.YtifjljkbfabifaaDoorWRenS2Z
import Derived.Test.YtifjljkbfabifaaDoorJGZ
namespace Go.Proofs.YtifjljkbfabifaaDoor
open Go Go.RowKit
end Go.Proofs.YtifjljkbfabifaaDoor
