/-
  The walks of the given RenameAt, RenameChanges and CanRename. Condition: the argument's memory holds the graph.
-/
import Derived.Test.YtgehpaojbnpbcaaGreatDoorJTZ
import Derived.Test.YtgehpaojbnpbcaaGreatDoorCanVZ
namespace Go.Proofs.YtgehpaojbnpbcaaGreatDoor
open Go Go.RowKit
theorem OwnGr.holdsS {w : World} {B n c : Nat} {o : Option Addr} {l : List Sc} {hs : List Value} (h : OwnGr w B (.slice o n c) l hs) : HoldsScopes w o l := by
  obtain ⟨ov, cv, he, hh⟩ := h.holds
  simp only [Value.slice.injEq] at he
  rw [he.1]
  exact hh
end Go.Proofs.YtgehpaojbnpbcaaGreatDoor
