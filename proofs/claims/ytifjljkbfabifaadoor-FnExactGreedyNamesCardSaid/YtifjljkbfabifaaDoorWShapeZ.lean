/-
  The walks of the given and of impl's SameShape, of impl's sameShape for items and scopes, and of slices.EqualFunc with them. Conditions: the arguments' memory holds the graphs; impl's: the package-level errors hold errors.
-/
import Derived.Test.YtifjljkbfabifaaDoorWRemItemZ
import Derived.Test.YtifjljkbfabifaaDoorWImplValidZ
import Derived.Test.YtifjljkbfabifaaDoorWSpecValidZ
import Derived.Test.YtifjljkbfabifaaDoorJCZ
import Derived.Deep.QuietTactic
import Derived.BigQuiet
namespace Go.Proofs.YtifjljkbfabifaaDoor
open Go Go.RowKit
end Go.Proofs.YtifjljkbfabifaaDoor
