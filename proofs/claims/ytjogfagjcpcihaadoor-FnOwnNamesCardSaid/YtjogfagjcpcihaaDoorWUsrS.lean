/-
  The walks of the given l6Declared, l6Users (of those that mean a place alone) and UsersOf. Conditions: the argument's memory holds the graph.
-/
import Derived.Test.YtjogfagjcpcihaaDoorUsr
import Derived.Test.YtjogfagjcpcihaaDoorJB
namespace Go.Proofs.YtjogfagjcpcihaaDoor
open Go Go.RowKit
attribute [local go_sem ↓] field_kind
theorem aloneB_decl {ss : List Sc} {d : Int × Int} {q : Nat × Nat × It} (h : q.2.2.kind = 1) : aloneB ss d q = false := by unfold aloneB; simp [h]
theorem aloneB_not {ss : List Sc} {d : Int × Int} {q : Nat × Nat × It} (h : d ∉ meanIt ss q) : aloneB ss d q = false := by
  unfold aloneB
  rw [decide_eq_false (show ¬ meanIt ss q = [d] from fun e => h (by rw [e]; exact List.mem_cons_self)), Bool.and_false]
theorem aloneB_more {ss : List Sc} {d : Int × Int} {q : Nat × Nat × It} (h : (meanIt ss q).length ≠ 1) : aloneB ss d q = false := by
  unfold aloneB
  rw [decide_eq_false (show ¬ meanIt ss q = [d] from fun e => h (by rw [e]; rfl)), Bool.and_false]
theorem aloneB_yes {ss : List Sc} {d : Int × Int} {q : Nat × Nat × It} (h : q.2.2.kind ≠ 1) (hd : d ∈ meanIt ss q) (hl : (meanIt ss q).length = 1) : aloneB ss d q = true := by
  unfold aloneB
  obtain ⟨e, he⟩ := List.length_eq_one_iff.1 hl
  rw [he] at hd
  rw [decide_eq_true h, decide_eq_true (show meanIt ss q = [d] by rw [he, List.mem_singleton.1 hd])]
  rfl
end Go.Proofs.YtjogfagjcpcihaaDoor
