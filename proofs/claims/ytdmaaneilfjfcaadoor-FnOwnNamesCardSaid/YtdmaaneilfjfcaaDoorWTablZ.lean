/-
  The walk of impl's (*resolution).sameTable, and what two graphs of one shape mean. Conditions: two resolutions lie in memory; the items of the one stand in the other.
-/
import Derived.Test.YtdmaaneilfjfcaaDoorJEZ
import Derived.Test.YtdmaaneilfjfcaaDoorWShapeZ
import Derived.Maps.RangeWalk
namespace Go.Proofs.YtdmaaneilfjfcaaDoor
open Go Go.RowKit Go.Maps
end Go.Proofs.YtdmaaneilfjfcaaDoor
