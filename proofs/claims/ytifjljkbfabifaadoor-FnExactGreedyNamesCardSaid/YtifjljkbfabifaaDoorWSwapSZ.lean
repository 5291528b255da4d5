/-
  The walks of the given l8RawSwapNames and SwapNames. Condition: the argument's memory holds the graph.
-/
import Derived.Test.YtifjljkbfabifaaDoorWSwapIZ
import Derived.Test.YtifjljkbfabifaaDoorJCZ
namespace Go.Proofs.YtifjljkbfabifaaDoor
open Go Go.RowKit
end Go.Proofs.YtifjljkbfabifaaDoor
