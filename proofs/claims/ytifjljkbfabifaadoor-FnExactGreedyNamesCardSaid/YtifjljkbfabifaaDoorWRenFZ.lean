/-
  The walks of impl's renamings: the closures of naming, replacing and then, and what a function value that renames does in every later world. No condition.
-/
import Derived.Test.YtifjljkbfabifaaDoorJDZ
import Derived.Test.YtifjljkbfabifaaDoorJEZ
namespace Go.Proofs.YtifjljkbfabifaaDoor
open Go Go.RowKit
/-- A function value that renames the items of a graph, in every world behind w. -/
def RenOn (us : List Sc) (w : World) (u : Value) (f : NameF) : Prop := ∃ (fn : Nat) (lb : Array Value), u = .func (.func fn) #[] lb ∧ (∀ args W, (callFunc fn args).run Tryd.prog W = .ok (.enter fn args) W) ∧
  ∀ (i j : Nat) (s : Sc) (x : It) (W : World), us[i]? = some s → s.items[j]? = some x → Below w.heap.size w W → Calls Tryd.prog fn (#[.agg #[.int .i64 (i : Int), .int .i64 (j : Int)], .string x.name] ++ lb) W fun e W' => e = .returned (.string (f i j x.name)) ∧ Below W.heap.size W W'
end Go.Proofs.YtifjljkbfabifaaDoor
