/-
  The walks of RemoveItem, given and impl. Conditions: the argument's memory holds the graph; the package-level errors hold errors.
-/
import Derived.Test.YtdmaaneilfjfcaaDoorWSpecRemove2Z
import Derived.Test.YtdmaaneilfjfcaaDoorWMarkRZ
namespace Go.Proofs.YtdmaaneilfjfcaaDoor
open Go Go.RowKit
end Go.Proofs.YtdmaaneilfjfcaaDoor
