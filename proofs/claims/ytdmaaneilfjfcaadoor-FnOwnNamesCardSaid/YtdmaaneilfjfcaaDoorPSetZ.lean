/-
  Sets of places as arrays of truths: impl's placeSet.has and placeSet.add, and the walk of (*lookup).seen. Conditions: the lookup lies in memory.
-/
import Derived.Test.YtdmaaneilfjfcaaDoorWPickIZ
import Derived.Laws.Rows
namespace Go.Proofs.YtdmaaneilfjfcaaDoor
open Go Go.RowKit Go.Maps
end Go.Proofs.YtdmaaneilfjfcaaDoor
namespace Go.Proofs.YtdmaaneilfjfcaaDoor
open Go Go.RowKit Go.Maps
attribute [local go_sem ↓] field_places
end Go.Proofs.YtdmaaneilfjfcaaDoor
