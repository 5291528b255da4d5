/-
  The walks of the given l8Named, l8RawRenameAt, RenameAt, RenameChanges and CanRename. Condition: the argument's memory holds the graph.
-/
import Derived.Test.YtdmaaneilfjfcaaDoorWSwapSZ
import Derived.Test.YtdmaaneilfjfcaaDoorWUsrSZ
import Derived.Test.YtdmaaneilfjfcaaDoorWChgSZ
import Derived.Test.YtdmaaneilfjfcaaDoorJEZ
namespace Go.Proofs.YtdmaaneilfjfcaaDoor
open Go Go.RowKit
def renOk (ss : List Sc) (a b : Int) (nm : ByteArray) : Prop := declOk ss a b ∧ nameB nm = true
def renG (ss : List Sc) (a b : Int) (nm : ByteArray) : List Sc := renP ss (nmIn (usersP ss (a, b) ++ [(a, b)]) nm)
theorem name_placed {ss : List Sc} (hv : Valid ss) {i j : Nat} {x : It} (hq : (i, j, x) ∈ placed 0 ss) : nameB x.name = true := by
  have h3 := hv.items
  rw [← placed_flat] at h3
  have h4 := (h3.1 (i, x) (List.mem_map.2 ⟨(i, j, x), hq, rfl⟩)).1
  unfold itemB at h4
  simp only [Bool.and_eq_true] at h4
  exact h4.1.1
theorem renOk.valid {ss : List Sc} {a b : Int} {nm : ByteArray} (h : renOk ss a b nm) : Valid (renG ss a b nm) := by
  refine Valid.ren h.1.1 fun i j x hq => ?_
  unfold nmIn
  split
  · exact h.2
  · exact name_placed h.1.1 hq
theorem nameB_small {nm : ByteArray} (h : nameB nm = true) : nm.size ≤ 2 ^ 63 - 1 := by
  have h1 : nm.data.toList.length = nm.size := by rw [Array.length_toList]; rfl
  unfold nameB at h
  rcases hd : nm.data.toList with _ | ⟨b, _ | ⟨c, r⟩⟩
  · rw [hd] at h; cases h
  · rw [hd] at h1; simp only [List.length_cons, List.length_nil] at h1; omega
  · rw [hd] at h; cases h
theorem Fair.ren {ss : List Sc} (hF : Fair ss) {f : NameF} (hf : ∀ i j s x, ss[i]? = some s → s.items[j]? = some x → (f i j x.name).size ≤ 2 ^ 63 - 1) : Fair (renP ss f) where
  count := by rw [renP_length]; exact hF.count
  items := items_ren hF.items f
  fits := hF.fits.ren hf
  nums := hF.nums.ren f
theorem renOk.fair {ss : List Sc} (hF : Fair ss) {a b : Int} {nm : ByteArray} (h : renOk ss a b nm) : Fair (renG ss a b nm) := by
  refine hF.ren fun i j s x hs hx => ?_
  unfold nmIn
  split
  · exact nameB_small h.2
  · exact (hF.fits.2 s (List.mem_of_getElem? hs)).2 x (List.mem_of_getElem? hx)
end Go.Proofs.YtdmaaneilfjfcaaDoor
