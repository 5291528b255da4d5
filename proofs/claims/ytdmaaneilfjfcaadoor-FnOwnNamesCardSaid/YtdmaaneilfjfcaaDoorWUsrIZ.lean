/-
  The walks of impl's (*resolution).users and UsersOf. Conditions: the argument's memory holds the graph; the package-level errors hold errors.
-/
import Derived.Test.YtdmaaneilfjfcaaDoorUsrZ
import Derived.Test.YtdmaaneilfjfcaaDoorJEZ
import Derived.Test.YtdmaaneilfjfcaaDoorMeanDZ
namespace Go.Proofs.YtdmaaneilfjfcaaDoor
open Go Go.RowKit Go.Maps
attribute [local go_sem] Oper.semAt_some
theorem UsrW.own {B MU n : Nat} {A : List Nat} {dl : List (Int × Int)} {f : Int × Int → List (Int × Int)} {b : Nat} (hb : MU < b) {W W' : World} {row : Option Nat} (h : UsrW W B MU n A dl f) (hg : W.grownBy W' row) (hr : ∀ r, row = some r → b ≤ r ∧ ∃ o : Obj, W.heap[r]? = some o ∧ o.isCells = false) : UsrW W' B MU n A dl f :=
  h.kept (cells_of_grown hg (fun r e => (hr r e).2)) (hg.block MU h.lt (fun e => by have := (hr _ e.symm).1; omega))
theorem UsrW.cells {w w' : World} {B MU n : Nat} {A : List Nat} {dl : List (Int × Int)} {f : Int × Int → List (Int × Int)} (h : UsrW w B MU n A dl f) (hg : w.grownBy w' (some MU)) : CellsKept w.heap.size w w' := by
  obtain ⟨D, g, h1, _⟩ := h
  exact cells_of_grown' hg h1
-- END1
end Go.Proofs.YtdmaaneilfjfcaaDoor
