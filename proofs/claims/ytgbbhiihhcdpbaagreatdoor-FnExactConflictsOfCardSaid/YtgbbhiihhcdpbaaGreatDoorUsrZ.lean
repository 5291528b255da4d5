/-
  Who uses a declaration, as plain data; a map of users in memory, told by what look-ups answer. Plain facts.
-/
import Derived.Test.YtgbbhiihhcdpbaaGreatDoorJEZ
import Derived.Test.YtgbbhiihhcdpbaaGreatDoorWSpecItemsZ
import Derived.Test.YtgbbhiihhcdpbaaGreatDoorMapEntZ
import Derived.RangeFuncWrites
namespace Go.Proofs.YtgbbhiihhcdpbaaGreatDoor
open Go Go.RowKit Go.Maps
theorem plLit_is (a b : Int) : WideAt.IsKeyLit (plLit a b) := trivial
end Go.Proofs.YtgbbhiihhcdpbaaGreatDoor
