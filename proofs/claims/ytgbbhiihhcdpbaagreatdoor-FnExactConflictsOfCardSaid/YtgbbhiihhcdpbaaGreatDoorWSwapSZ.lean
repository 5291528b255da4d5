/-
  The walks of the given l8RawSwapNames and SwapNames. Condition: the argument's memory holds the graph.
-/
import Derived.Test.YtgbbhiihhcdpbaaGreatDoorWSwapIZ
import Derived.Test.YtgbbhiihhcdpbaaGreatDoorJCZ
namespace Go.Proofs.YtgbbhiihhcdpbaaGreatDoor
open Go Go.RowKit
/-- A graph that may share memory, and a truth. -/
def RawGr (ok : Prop) (l : List Sc) (w : World) (e : Ending) (w' : World) : Prop :=
  (¬ ok ∧ e = .returned (.tuple #[.agg #[.slice none 0 0], .bool false]) ∧ Below w.heap.size w w') ∨
  (ok ∧ ∃ ov cv, e = .returned (.tuple #[.agg #[.slice ov l.length cv], .bool true]) ∧ HoldsScopes w' ov l ∧ Below w.heap.size w w')
theorem OwnGr.holdsAtR {w : World} {B c : Nat} {o : Option Addr} {l : List Sc} {hs : List Value} (h : OwnGr w B (.slice o l.length c) l hs) : HoldsScopes w o l := by
  obtain ⟨ov, cv, he, hh⟩ := h.holds
  simp only [Value.slice.injEq] at he
  rw [he.1]
  exact hh
end Go.Proofs.YtgbbhiihhcdpbaaGreatDoor
