/-
  The walks of the given RenameAt, RenameChanges and CanRename. Condition: the argument's memory holds the graph.
-/
import Derived.Test.YtjogfagjcpcihaaDoorWRenS
import Derived.Test.YtjogfagjcpcihaaDoorCanV
namespace Go.Proofs.YtjogfagjcpcihaaDoor
open Go Go.RowKit
theorem ren_stays {ss : List Sc} {a b : Int} {nm : ByteArray} : ∀ i j x, (i, j, x) ∈ placed 0 ss → ∃ y, (i, j, y) ∈ placed 0 (renG ss a b nm) := fun _ _ _ h => ⟨_, placed_ren h⟩
theorem OwnGr.holdsS {w : World} {B n c : Nat} {o : Option Addr} {l : List Sc} {hs : List Value} (h : OwnGr w B (.slice o n c) l hs) : HoldsScopes w o l := by
  obtain ⟨ov, cv, he, hh⟩ := h.holds
  simp only [Value.slice.injEq] at he
  rw [he.1]
  exact hh
end Go.Proofs.YtjogfagjcpcihaaDoor
