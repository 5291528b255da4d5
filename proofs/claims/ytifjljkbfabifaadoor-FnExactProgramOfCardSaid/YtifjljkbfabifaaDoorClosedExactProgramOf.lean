/-
  The closed facts of the row of FnExactProgramOf: each cell of the row is what the program's own tables say. Plain facts.
-/
import Derived.Test.YtifjljkbfabifaaDoorRows
import Derived.JoinedCond
namespace Go.Proofs.YtifjljkbfabifaaDoor
open Go
namespace rowExactProgramOf
theorem and_mk {a b : Bool} (ha : a = true) (hb : b = true) : (a && b) = true := by rw [ha, hb]; rfl
set_option maxRecDepth 100000 in
set_option maxHeartbeats 8000000 in
theorem closed : joinedFacts Tryd.pinned.checked.prog 7 Tryd.f7 (OpenSpec.ofChange Rows.fnExactProgramOfSpec).bare Rows.fnExactProgramOfRow = true := by
  unfold joinedFacts
  repeat' (with_reducible refine and_mk ?_ ?_)
  all_goals (as_aux_lemma => kernel_rfl)
end rowExactProgramOf
end Go.Proofs.YtifjljkbfabifaaDoor
