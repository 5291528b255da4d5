/-
  The closed facts of the row of FnExactIsFewest: each cell of the row is what the program's own tables say. Plain facts.
-/
import Derived.Test.YtgehpaojbnpbcaaGreatDoorRows
import Derived.JoinedCond
namespace Go.Proofs.YtgehpaojbnpbcaaGreatDoor
open Go
namespace rowExactIsFewest
theorem and_mk {a b : Bool} (ha : a = true) (hb : b = true) : (a && b) = true := by rw [ha, hb]; rfl
set_option maxRecDepth 100000 in
set_option maxHeartbeats 8000000 in
theorem closed : joinedFacts Tryz.pinned.checked.prog 4 Tryz.f4 (OpenSpec.ofChange Rows.fnExactIsFewestSpec).bare Rows.fnExactIsFewestRow = true := by
  unfold joinedFacts
  repeat' (with_reducible refine and_mk ?_ ?_)
  all_goals (as_aux_lemma => kernel_rfl)
end rowExactIsFewest
end Go.Proofs.YtgehpaojbnpbcaaGreatDoor
