/-
  A truth that tells whether a list is there and empty. Plain facts.
-/
import Derived.Test.YtgehpaojbnpbcaaGreatDoorBaseZ
namespace Go.Proofs.YtgehpaojbnpbcaaGreatDoor
open Go Go.RowKit
/-- A truth that tells whether a list is there and empty. -/
def CanVal (ok : Prop) (l : List (Int × Int)) (b : Bool) : Prop := (¬ ok ∧ b = false) ∨ (ok ∧ b = decide (l = []))
end Go.Proofs.YtgehpaojbnpbcaaGreatDoor
