/-
  The walks of the given l8RawSwapNames and SwapNames. Condition: the argument's memory holds the graph.
-/
import Derived.Test.YtdmaaneilfjfcaaDoorWSwapIZ
import Derived.Test.YtdmaaneilfjfcaaDoorJC
namespace Go.Proofs.YtdmaaneilfjfcaaDoor
open Go Go.RowKit
end Go.Proofs.YtdmaaneilfjfcaaDoor
