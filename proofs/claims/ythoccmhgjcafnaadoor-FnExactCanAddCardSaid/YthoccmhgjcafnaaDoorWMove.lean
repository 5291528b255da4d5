/-
  The walks of impl's moving and MoveItem: a graph with an item behind those of another scope. Conditions: the argument's memory holds the graph; the package-level errors hold errors; the place's numbers are ones of 64 bits.
-/
import Derived.Test.YthoccmhgjcafnaaDoorWAddI
import Derived.Test.YthoccmhgjcafnaaDoorJB
import Derived.Test.YthoccmhgjcafnaaDoorWRemItem
namespace Go.Proofs.YthoccmhgjcafnaaDoor
open Go Go.RowKit Go.Maps
/-- A valid graph with an item that can be moved to a scope. -/
def movOk (ss : List Sc) (a b n : Int) : Prop := Valid ss ∧ ∃ x, itemAtP ss a b = some x ∧ x.scope = -1 ∧ a ≠ n ∧ Room ss n
/-- The graph with an item moved. -/
def movAt (ss : List Sc) (a b n : Int) : List Sc := addP (rmvP ss a.toNat b.toNat) n.toNat ((itemAtP ss a b).getD zeroIt)
/-- What moving answers. -/
def MovingGot (ss : List Sc) (a b n : Int) (w : World) (e : Ending) (w' : World) : Prop :=
  (¬ movOk ss a b n ∧ (∃ tp p, e = .returned (.tuple #[.agg #[.slice none 0 0], .agg #[.int .i64 0, .int .i64 0], .iface tp p])) ∧ Below w.heap.size w w') ∨
  (movOk ss a b n ∧ ∃ (v : Value) (hs : List Value), e = .returned (.tuple #[.agg #[v], .agg #[.int .i64 n, .int .i64 (endAt ss n)], .nilIface]) ∧ OwnGr w' w.heap.size v (movAt ss a b n) hs ∧ Below w.heap.size w w')
end Go.Proofs.YthoccmhgjcafnaaDoor
