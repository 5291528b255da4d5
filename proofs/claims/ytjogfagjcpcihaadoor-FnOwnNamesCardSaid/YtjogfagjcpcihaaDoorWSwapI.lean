/-
  The walk of impl's SwapNames. Conditions: the argument's memory holds the graph; the package-level errors hold errors.
-/
import Derived.Test.YtjogfagjcpcihaaDoorWApply
import Derived.Test.YtjogfagjcpcihaaDoorWRemItem
namespace Go.Proofs.YtjogfagjcpcihaaDoor
open Go Go.RowKit
def swapOk (ss : List Sc) (a b : ByteArray) : Prop := Valid ss ∧ nameB a = true ∧ nameB b = true
end Go.Proofs.YtjogfagjcpcihaaDoor
