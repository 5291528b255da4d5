/-
  The closed facts of the row of FnExactChangedBy: each cell of the row is what the program's own tables say. Plain facts.
-/
import Derived.Test.YtadpgoiiopfnnaaDoorRows
import Derived.JoinedCond
namespace Go.Proofs.YtadpgoiiopfnnaaDoor
open Go
namespace rowExactChangedBy
theorem and_mk {a b : Bool} (ha : a = true) (hb : b = true) : (a && b) = true := by rw [ha, hb]; rfl
set_option maxRecDepth 100000 in
set_option maxHeartbeats 8000000 in
theorem closed : joinedFacts Tryd.pinned.checked.prog 7 Tryd.f7 (OpenSpec.ofChange Rows.fnExactChangedBySpec).bare Rows.fnExactChangedByRow = true := by
  unfold joinedFacts
  repeat' (with_reducible refine and_mk ?_ ?_)
  all_goals (as_aux_lemma => kernel_rfl)
end rowExactChangedBy
end Go.Proofs.YtadpgoiiopfnnaaDoor
