/-
  The walks of the declarations of a name in a scope: the given l3Asked, l3Own and OwnOf; impl's (*node).own, lookupIn, lookupOf and OwnOf. Conditions: the argument's memory holds the graph; the package-level errors hold errors. The module of a scope: what a tree's map of modules says of it, and the first declaration of a graph with that scope. Plain facts. Looking up names, as plain data: what a scope imports, what a name finds from a scope, what an import means and brings in. Plain facts. The walks of the given l2In, WithinOf and CommonScope. Condition: the argument's memory holds the graph. A lookup in memory, its map of targets told by the places that it holds; what keeps it. Plain facts, and the walks of slices.Index and slices.Contains at numbers. The walks of ModuleOf, the given one and impl's. Conditions: the argument's memory holds the graph; the package-level errors hold errors. The walks of the given l3FromBy, l3WayBy and l3MeantBy. Conditions: the argument's memory holds the graph, and the table what its scopes import. What items mean and their states, as plain data; the meanings in memory: a map told by the slices that it holds. Plain facts. The walks of the given l3MeantBy and l3Table. Conditions: the argument's memory holds the graph, and the table what its scopes import. The walk of the given l3Table. Condition: the argument's memory holds the graph. The walks of the given l3Imported, l3From, l3Way, l3LookUp, ImportedScopes, ImportedOf and LookUp. Condition: the argument's memory holds the graph. A graph whose items have other names: where its items stand, and that it is valid where the names are. Plain facts. What is visible from a scope, as plain data: the letters for which so many declarations are found, and what is hidden where a declaration stands. Plain facts. A graph of the call's own when an item of it gets another name where it lies. Plain facts.
-/
import Derived.Test.YtjogfagjcpcihaaGreatDoorJAX
import Derived.Test.YtjogfagjcpcihaaGreatDoorJBX
import Derived.Maps.Ext
import Derived.Laws.OwnMore
import Derived.Deep.RegionHeld3
import Derived.Test.YtjogfagjcpcihaaGreatDoorJCX
import Derived.Laws.RangeString
import Derived.Laws.Runes
namespace Go.Proofs.YtjogfagjcpcihaaGreatDoor
open Go Go.RowKit Go.Maps
end Go.Proofs.YtjogfagjcpcihaaGreatDoor
namespace Go.Proofs.YtjogfagjcpcihaaGreatDoor
open Go Go.RowKit Go.Maps
end Go.Proofs.YtjogfagjcpcihaaGreatDoor
namespace Go.Proofs.YtjogfagjcpcihaaGreatDoor
open Go Go.RowKit
end Go.Proofs.YtjogfagjcpcihaaGreatDoor
namespace Go.Proofs.YtjogfagjcpcihaaGreatDoor
open Go Go.RowKit
end Go.Proofs.YtjogfagjcpcihaaGreatDoor
namespace Go.Proofs.YtjogfagjcpcihaaGreatDoor
open Go Go.RowKit Go.Maps
end Go.Proofs.YtjogfagjcpcihaaGreatDoor
namespace Go.Proofs.YtjogfagjcpcihaaGreatDoor
open Go Go.RowKit Go.Maps
end Go.Proofs.YtjogfagjcpcihaaGreatDoor
namespace Go.Proofs.YtjogfagjcpcihaaGreatDoor
open Go Go.RowKit Go.Maps
/-- An append whose run is known. -/
theorem wpList_append_run {P : Program} {w : World} {ops : Array Oper} {rest : List Oper} {o : Oper} {a : Act} {Q : Exit → Act → World → Prop} (hgd : o.guard = none) (s x : Operand) (t : TypeId)
    (ho : o.op = .call { callee := .builtin .append, args := #[s, x], argTypes := #[t, t] }) {v' : Value} {w' : World} (hr : (Builtin.append_ #[t, t] o.type #[a.eval s, a.eval x]).run P w = .ok v' w')
    (h : wpList P ops Q rest (a.put o.dst v') w') : wpList P ops Q (o :: rest) a w :=
  wpList_plain hgd fun _ hK => by
    unfold Oper.wp execOp
    simp only [ho, resolve, invoke, builtin, Sem.run_bind, Sem.run_pure, Result.andThen_ok, List.map_toArray, List.map_cons, List.map_nil, hr]
    exact hK _ _ h
end Go.Proofs.YtjogfagjcpcihaaGreatDoor
namespace Go.Proofs.YtjogfagjcpcihaaGreatDoor
open Go Go.RowKit Go.Maps
end Go.Proofs.YtjogfagjcpcihaaGreatDoor
namespace Go.Proofs.YtjogfagjcpcihaaGreatDoor
open Go Go.RowKit Go.Maps
end Go.Proofs.YtjogfagjcpcihaaGreatDoor
namespace Go.Proofs.YtjogfagjcpcihaaGreatDoor
open Go Go.RowKit Go.Maps
end Go.Proofs.YtjogfagjcpcihaaGreatDoor
namespace Go.Proofs.YtjogfagjcpcihaaGreatDoor
open Go Go.RowKit Go.Maps
end Go.Proofs.YtjogfagjcpcihaaGreatDoor
namespace Go.Proofs.YtjogfagjcpcihaaGreatDoor
open Go Go.RowKit
end Go.Proofs.YtjogfagjcpcihaaGreatDoor
namespace Go.Proofs.YtjogfagjcpcihaaGreatDoor
open Go Go.RowKit
end Go.Proofs.YtjogfagjcpcihaaGreatDoor
namespace Go.Proofs.YtjogfagjcpcihaaGreatDoor
open Go Go.RowKit
end Go.Proofs.YtjogfagjcpcihaaGreatDoor
