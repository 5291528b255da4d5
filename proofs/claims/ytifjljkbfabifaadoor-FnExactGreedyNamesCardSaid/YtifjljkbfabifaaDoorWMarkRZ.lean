/-
  The walks of the laws' markItemS, markScopeS, markGraph, heldItemS, heldScopeS and heldGraph over a graph that a call handed back: once marked, it is found marked. Condition: the graph's memory is the call's own.
-/
import Derived.Test.YtifjljkbfabifaaDoorJBZ
import Derived.Test.YtifjljkbfabifaaDoorJAZ
import Derived.Lib.QuietBelow
import Derived.BigQuiet
import Derived.ChangeSame
import Derived.ProofKit
import Derived.OpenShut
namespace Go.Proofs.YtifjljkbfabifaaDoor
open Go Go.RowKit
theorem below_of_grown {w w' : World} {B : Nat} {row : Option Nat} (hg : w.grownBy w' row) (hB : B ≤ w.heap.size) (hr : ∀ g, row = some g → B ≤ g) : Below B w w' :=
  ⟨hg.os, hg.tape, hg.output, hg.size, fun b hb => hg.block b (Nat.lt_of_lt_of_le hb hB) (fun e => by have := hr b e.symm; omega)⟩
end Go.Proofs.YtifjljkbfabifaaDoor
