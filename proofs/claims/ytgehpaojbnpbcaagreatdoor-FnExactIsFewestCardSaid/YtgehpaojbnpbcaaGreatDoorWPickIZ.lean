/-
  The walks of impl's namesFrom, VisibleNames, FreeNames and ClashesOf. Conditions: the argument's memory holds the graph; the package-level errors hold errors.
-/
import Derived.Test.YtgehpaojbnpbcaaGreatDoorJDZ
import Derived.Test.YtgehpaojbnpbcaaGreatDoorWImplLookZ
import Derived.Lib.OthersKept
import Derived.Laws.RangeAny
namespace Go.Proofs.YtgehpaojbnpbcaaGreatDoor
open Go Go.RowKit Go.Maps
attribute [local go_sem ↓] field_places
end Go.Proofs.YtgehpaojbnpbcaaGreatDoor
