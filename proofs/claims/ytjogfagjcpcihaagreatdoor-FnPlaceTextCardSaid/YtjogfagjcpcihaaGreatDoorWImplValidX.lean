/-
  The walk of impl's GraphValid. Conditions: the argument's memory holds the graph; the package-level errors hold errors.
-/
import Derived.Test.YtjogfagjcpcihaaGreatDoorWTreeOfX
import Derived.Test.YtjogfagjcpcihaaGreatDoorWEqX
namespace Go.Proofs.YtjogfagjcpcihaaGreatDoor
open Go Go.RowKit
/-- Graphs that the laws call the program with. -/
structure Fair (ss : List Sc) : Prop where
  count : ss.length ≤ 1048576
  items : ∀ s ∈ ss, s.items.length ≤ 1048576
  fits : FitsScopes ss
  nums : I64Scopes ss
theorem Fair.tree {ss : List Sc} (h : Fair ss) (oa : Option Addr) (cap : Nat) (w : World) (hc : HoldsScopes w oa ss) (hE : TreeErrs w) :
    Calls Tryz.prog 45 #[.agg #[.slice oa ss.length cap]] w (TreeGot ss w) :=
  treeOf_any ss oa cap w h.count (fun s hs => h.items s hs) h.nums hc hE
end Go.Proofs.YtjogfagjcpcihaaGreatDoor
