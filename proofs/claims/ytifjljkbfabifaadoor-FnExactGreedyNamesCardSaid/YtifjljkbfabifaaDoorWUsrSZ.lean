/-
  The walks of the given l6Declared, l6Users (of those that mean a place alone) and UsersOf. Conditions: the argument's memory holds the graph.
-/
import Derived.Test.YtifjljkbfabifaaDoorUsrZ
import Derived.Test.YtifjljkbfabifaaDoorJBZ
namespace Go.Proofs.YtifjljkbfabifaaDoor
open Go Go.RowKit
attribute [local go_sem ↓] field_kind
end Go.Proofs.YtifjljkbfabifaaDoor
