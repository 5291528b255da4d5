/-
  The walks of the given l8Named, l8RawRenameAt, RenameAt, RenameChanges and CanRename. Condition: the argument's memory holds the graph.
-/
import Derived.Test.YtifjljkbfabifaaDoorWSwapSZ
import Derived.Test.YtifjljkbfabifaaDoorWUsrSZ
import Derived.Test.YtifjljkbfabifaaDoorWChgSZ
import Derived.Test.YtifjljkbfabifaaDoorJEZ
namespace Go.Proofs.YtifjljkbfabifaaDoor
open Go Go.RowKit
theorem Fair.ren {ss : List Sc} (hF : Fair ss) {f : NameF} (hf : ∀ i j s x, ss[i]? = some s → s.items[j]? = some x → (f i j x.name).size ≤ 2 ^ 63 - 1) : Fair (renP ss f) where
  count := by rw [renP_length]; exact hF.count
  items := items_ren hF.items f
  fits := hF.fits.ren hf
  nums := hF.nums.ren f
end Go.Proofs.YtifjljkbfabifaaDoor
