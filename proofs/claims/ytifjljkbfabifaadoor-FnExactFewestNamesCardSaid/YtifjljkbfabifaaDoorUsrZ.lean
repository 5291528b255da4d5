/-
  Who uses a declaration, as plain data; a map of users in memory, told by what look-ups answer. Plain facts.
-/
import Derived.Test.YtifjljkbfabifaaDoorJEZ
import Derived.Test.YtifjljkbfabifaaDoorWSpecItemsZ
import Derived.Test.YtifjljkbfabifaaDoorMapEntZ
import Derived.RangeFuncWrites
namespace Go.Proofs.YtifjljkbfabifaaDoor
open Go Go.RowKit Go.Maps
theorem plLit_is (a b : Int) : WideAt.IsKeyLit (plLit a b) := trivial
end Go.Proofs.YtifjljkbfabifaaDoor
