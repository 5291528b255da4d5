/-
  The walks of the given l7List and l7Changes. Conditions: both graphs are valid and lie in memory.
-/
import Derived.Test.YtjogfagjcpcihaaDoorWSpecItems
import Derived.Test.YtjogfagjcpcihaaDoorJE
import Derived.Deep.RegionHeld3
namespace Go.Proofs.YtjogfagjcpcihaaDoor
open Go Go.RowKit
end Go.Proofs.YtjogfagjcpcihaaDoor
