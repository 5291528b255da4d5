/-
  The walks of the given l8Named, l8RawRenameAt, RenameAt, RenameChanges and CanRename. Condition: the argument's memory holds the graph.
-/
import Derived.Test.YtgbbhiihhcdpbaaGreatDoorWSwapSZ
import Derived.Test.YtgbbhiihhcdpbaaGreatDoorWUsrSZ
import Derived.Test.YtgbbhiihhcdpbaaGreatDoorWChgSZ
import Derived.Test.YtgbbhiihhcdpbaaGreatDoorJEZ
namespace Go.Proofs.YtgbbhiihhcdpbaaGreatDoor
open Go Go.RowKit
theorem Fair.ren {ss : List Sc} (hF : Fair ss) {f : NameF} (hf : ∀ i j s x, ss[i]? = some s → s.items[j]? = some x → (f i j x.name).size ≤ 2 ^ 63 - 1) : Fair (renP ss f) where
  count := by rw [renP_length]; exact hF.count
  items := items_ren hF.items f
  fits := hF.fits.ren hf
  nums := hF.nums.ren f
theorem cell_farR {w : World} {b g : Nat} (h : b ≠ g) (i : Nat) (v : Value) {o : Nat} : (w.setCell ⟨g, i, none⟩ v).cell? ⟨b, o, none⟩ = w.cell? ⟨b, o, none⟩ := World.cell?_of_block (Below.heap_setCell _ _ _ _ h)
end Go.Proofs.YtgbbhiihhcdpbaaGreatDoor
