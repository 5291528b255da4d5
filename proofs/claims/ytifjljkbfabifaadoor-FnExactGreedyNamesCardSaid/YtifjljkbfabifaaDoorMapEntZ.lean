/-
  An entry of a map that is there, read and stored anew by its stamp: the map's reading and storing by its key. Plain facts.
-/
import Derived.Test.YtifjljkbfabifaaDoorJDZ
import Derived.WideKeyEntry
namespace Go.Proofs.YtifjljkbfabifaaDoor
open Go Go.RowKit Go.Maps
open Go.WideElems Go.ChangeShapes Go.WideShapes Go.MapKept Go.ChangeMaps
end Go.Proofs.YtifjljkbfabifaaDoor
