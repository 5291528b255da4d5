/-
  The walk of impl's GraphValid. Conditions: the argument's memory holds the graph; the package-level errors hold errors.
-/
import Derived.Test.YtgehpaojbnpbcaaGreatDoorWTreeOfZ
import Derived.Test.YtgehpaojbnpbcaaGreatDoorWEqZ
namespace Go.Proofs.YtgehpaojbnpbcaaGreatDoor
open Go Go.RowKit
/-- Graphs that the laws call the program with. -/
structure Fair (ss : List Sc) : Prop where
  count : ss.length ≤ 1048576
  items : ∀ s ∈ ss, s.items.length ≤ 1048576
  fits : FitsScopes ss
  nums : I64Scopes ss
theorem Fair.tree {ss : List Sc} (h : Fair ss) (oa : Option Addr) (cap : Nat) (w : World) (hc : HoldsScopes w oa ss) (hE : TreeErrs w) :
    Calls Tryz.prog 86 #[.agg #[.slice oa ss.length cap]] w (TreeGot ss w) :=
  treeOf_any ss oa cap w h.count (fun s hs => h.items s hs) h.nums hc hE
theorem nItems_mem : ∀ {ss : List Sc} {s : Sc}, s ∈ ss → s.items.length ≤ wScopes ss
  | t :: r, s, h => by
    simp only [wScopes]
    rcases List.mem_cons.1 h with rfl | h
    · have := wItems_eq s.items; omega
    · have := nItems_mem h; omega
theorem Fair.of_weight {ss : List Sc} (hf : FitsScopes ss) (hI : I64Scopes ss) (h : wScopes ss ≤ 1048576) : Fair ss :=
  ⟨by have := wScopes_eq ss; omega, fun s hs => Nat.le_trans (nItems_mem hs) h, hf, hI⟩
end Go.Proofs.YtgehpaojbnpbcaaGreatDoor
