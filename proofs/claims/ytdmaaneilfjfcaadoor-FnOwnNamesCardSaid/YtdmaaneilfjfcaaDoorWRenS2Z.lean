/-
  The walks of the given RenameAt, RenameChanges and CanRename. Condition: the argument's memory holds the graph.
-/
import Derived.Test.YtdmaaneilfjfcaaDoorWRenSZ
import Derived.Test.YtdmaaneilfjfcaaDoorCanVZ
namespace Go.Proofs.YtdmaaneilfjfcaaDoor
open Go Go.RowKit
end Go.Proofs.YtdmaaneilfjfcaaDoor
