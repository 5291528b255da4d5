/-
  The closed facts of the row of FnSeen: each cell of the row is what the program's own tables say. Plain facts.
-/
import Derived.Test.YtjogfagjcpcihaaDoorRows
import Derived.JoinedCond
namespace Go.Proofs.YtjogfagjcpcihaaDoor
open Go
namespace rowSeen
theorem and_mk {a b : Bool} (ha : a = true) (hb : b = true) : (a && b) = true := by rw [ha, hb]; rfl
set_option maxRecDepth 100000 in
set_option maxHeartbeats 8000000 in
theorem closed : joinedFacts Tryd.pinned.checked.prog 4 Tryd.f4 (OpenSpec.ofChange Rows.fnSeenSpec).bare Rows.fnSeenRow = true := by
  unfold joinedFacts
  repeat' (with_reducible refine and_mk ?_ ?_)
  all_goals (as_aux_lemma => kernel_rfl)
end rowSeen
end Go.Proofs.YtjogfagjcpcihaaDoor
