/-
  The walks of RemoveItem, given and impl. Conditions: the argument's memory holds the graph; the package-level errors hold errors.
-/
import Derived.Test.YtifjljkbfabifaaDoorWSpecRemove2Z
import Derived.Test.YtifjljkbfabifaaDoorWMarkRZ
namespace Go.Proofs.YtifjljkbfabifaaDoor
open Go Go.RowKit
end Go.Proofs.YtifjljkbfabifaaDoor
