/-
  The walks of impl's ItemsIn and IsSound. Conditions: the argument's memory holds the graph; the package-level errors hold errors.
-/
import Derived.Test.YtgehpaojbnpbcaaGreatDoorJEZ
namespace Go.Proofs.YtgehpaojbnpbcaaGreatDoor
open Go Go.RowKit Go.Maps
attribute [local go_sem] Oper.semAt_some
/-- The places of the items in a state among some items, in order. -/
def stsOf (ss : List Sc) (z : Int) (l : List (Nat × Nat × It)) : List (Int × Int) := (l.filter fun q => stateIt ss q == z).map fun q => ((q.1 : Int), (q.2.1 : Int))
theorem stsOf_snoc (ss : List Sc) (z : Int) (l : List (Nat × Nat × It)) (q : Nat × Nat × It) : stsOf ss z (l ++ [q]) = stsOf ss z l ++ if stateIt ss q = z then [((q.1 : Int), (q.2.1 : Int))] else [] := by
  unfold stsOf
  rw [List.filter_append, List.map_append]
  congr 1
  by_cases h : stateIt ss q = z
  · rw [if_pos h]; simp [h]
  · rw [if_neg h]; simp [h]
theorem stsOf_length (ss : List Sc) (z : Int) (l : List (Nat × Nat × It)) : (stsOf ss z l).length ≤ l.length := by
  unfold stsOf
  rw [List.length_map]
  exact List.length_filter_le _ _
def stsP (ss : List Sc) (z : Int) : List (Int × Int) := stsOf ss z (placed 0 ss)
def stOk (ss : List Sc) (z : Int) : Prop := Valid ss ∧ inB z 1 4 = true
end Go.Proofs.YtgehpaojbnpbcaaGreatDoor
