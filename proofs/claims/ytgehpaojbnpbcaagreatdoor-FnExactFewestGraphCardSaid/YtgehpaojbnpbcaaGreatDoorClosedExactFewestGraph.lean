/-
  The closed facts of the row of FnExactFewestGraph: each cell of the row is what the program's own tables say. Plain facts.
-/
import Derived.Test.YtgehpaojbnpbcaaGreatDoorRows
import Derived.JoinedCond
namespace Go.Proofs.YtgehpaojbnpbcaaGreatDoor
open Go
namespace rowExactFewestGraph
theorem and_mk {a b : Bool} (ha : a = true) (hb : b = true) : (a && b) = true := by rw [ha, hb]; rfl
set_option maxRecDepth 100000 in
set_option maxHeartbeats 8000000 in
theorem closed : joinedFacts Tryz.pinned.checked.prog 3 Tryz.f3 (OpenSpec.ofChange Rows.fnExactFewestGraphSpec).bare Rows.fnExactFewestGraphRow = true := by
  unfold joinedFacts
  repeat' (with_reducible refine and_mk ?_ ?_)
  all_goals (as_aux_lemma => kernel_rfl)
end rowExactFewestGraph
end Go.Proofs.YtgehpaojbnpbcaaGreatDoor
