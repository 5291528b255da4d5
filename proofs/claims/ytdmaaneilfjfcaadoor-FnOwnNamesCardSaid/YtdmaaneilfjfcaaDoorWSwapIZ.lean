/-
  The walk of impl's SwapNames. Conditions: the argument's memory holds the graph; the package-level errors hold errors.
-/
import Derived.Test.YtdmaaneilfjfcaaDoorWApplyZ
import Derived.Test.YtdmaaneilfjfcaaDoorWRemItemZ
namespace Go.Proofs.YtdmaaneilfjfcaaDoor
open Go Go.RowKit
end Go.Proofs.YtdmaaneilfjfcaaDoor
