/-
  The walks of the given l9RawFreshGraph and FreshGraph. Condition: the argument's memory holds the graph. (genfrs.py writes this text.)
-/
import Derived.Test.YtgehpaojbnpbcaaGreatDoorJGZ
import Derived.Test.YtgehpaojbnpbcaaGreatDoorJQZ
namespace Go.Proofs.YtgehpaojbnpbcaaGreatDoor
open Go Go.RowKit
/-- What the raw given function answers: the graph lies in memory. -/
def RawGv (ok : Prop) (l : List Sc) (w : World) (e : Ending) (w' : World) : Prop := ∃ (ov : Option Addr) (cv : Nat) (xs : List Sc) (b : Bool), e = .returned (.tuple #[.agg #[.slice ov xs.length cv], .bool b]) ∧ grVal ok l xs b ∧ HoldsScopes w' ov xs ∧ Below w.heap.size w w'
end Go.Proofs.YtgehpaojbnpbcaaGreatDoor
