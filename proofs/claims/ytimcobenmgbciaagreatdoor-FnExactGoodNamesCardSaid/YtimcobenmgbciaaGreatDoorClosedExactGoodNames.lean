/-
  The closed facts of the row of FnExactGoodNames: each cell of the row is what the program's own tables say. Plain facts.
-/
import Derived.Test.YtimcobenmgbciaaGreatDoorRows
import Derived.JoinedCond
namespace Go.Proofs.YtimcobenmgbciaaGreatDoor
open Go
namespace rowExactGoodNames
theorem and_mk {a b : Bool} (ha : a = true) (hb : b = true) : (a && b) = true := by rw [ha, hb]; rfl
set_option maxRecDepth 100000 in
set_option maxHeartbeats 8000000 in
theorem closed : joinedFacts Tryz.pinned.checked.prog 3 Tryz.f3 (OpenSpec.ofChange Rows.fnExactGoodNamesSpec).bare Rows.fnExactGoodNamesRow = true := by
  unfold joinedFacts
  repeat' (with_reducible refine and_mk ?_ ?_)
  all_goals (as_aux_lemma => kernel_rfl)
end rowExactGoodNames
end Go.Proofs.YtimcobenmgbciaaGreatDoor
