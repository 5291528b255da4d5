/-
  A graph that comes in as an argument, opened to its cells: scopes with their items, numbers of 64 bits, and names and lists that a machine can hold. Plain facts.
-/
import Derived.Test.YtjogfagjcpcihaaGreatDoorWEqX
import Derived.Test.YtjogfagjcpcihaaGreatDoorBaseX
import Derived.Lib.SmallJoins
namespace Go.Proofs.YtjogfagjcpcihaaGreatDoor
open Go Go.RowKit Go.ChangeShapes Go.WideShapes Go.Deep
/-- Numbers of 64 bits, in items and scopes. -/
def I64Items (xs : List It) : Prop := ∀ x ∈ xs, Sg.I64 x.kind ∧ Sg.I64 x.scope
def I64Scopes (ss : List Sc) : Prop := ∀ s ∈ ss, Sg.I64 s.parent ∧ I64Items s.items
section
variable {H : Type} {enc : TypeId × Value → H} {w : World} {spare : Nat → Bool}
theorem one_of_size {cs : Array Value} (h : cs.size = 1) : ∃ c, cs = #[c] := by
  obtain ⟨l⟩ := cs
  match l, h with
  | [c], _ => exact ⟨c, rfl⟩
end
end Go.Proofs.YtjogfagjcpcihaaGreatDoor
