/-
  The last letter of a path is one of the scope of what the others find. Plain facts; no condition.
-/
import Derived.Test.YtjogfagjcpcihaaGreatDoorWPathY
namespace Go.Proofs.YtjogfagjcpcihaaGreatDoor
open Go Go.RowKit Go.Maps
theorem ext_ext (p : ByteArray) {j a b : Nat} (hb : b ≤ j) : (p.extract 0 j).extract a b = p.extract a b := by
  apply ByteArray.ext
  simp only [ByteArray.data_extract, Array.extract_extract]
  congr 1 <;> omega
theorem fpUp_head (ss : List Sc) (s : Nat) (p : ByteArray) {j : Nat} : ∀ {i : Nat}, i ≤ j → fpUp ss s (p.extract 0 j) i = fpUp ss s p i
  | 0, _ => rfl
  | 1, h => by simp only [fpUp]; rw [ext_ext p h]
  | k + 2, h => by
    rw [fpUp_succ ss s (p.extract 0 j) (by omega), fpUp_succ ss s p (by omega), fpUp_head ss s p (i := k + 1) (by omega), ext_ext p h]
theorem size_head (p : ByteArray) {j : Nat} (h : j ≤ p.size) : (p.extract 0 j).size = j := by rw [ByteArray.size_extract]; omega
theorem letters_head {p : ByteArray} {k j : Nat} (h : letters p k) (hj : j ≤ k) : letters (p.extract 0 j) j := fun i hi => by
  rw [ext_ext p (by omega)]; exact h i (by omega)
theorem extract_whole (p : ByteArray) : p.extract 0 p.size = p := by
  apply ByteArray.ext
  rw [ByteArray.data_extract]
  exact Array.extract_size
/-- A path of one letter is looked up. -/
theorem fp_one {ss : List Sc} {n : Int} {p : ByteArray} (h : fpOk ss n p) (h1 : p.size = 1) : nameB p = true ∧ fpUp ss n.toNat p p.size = (lookP ss n.toNat p).places := by
  have e : p.extract 0 1 = p := by rw [← h1]; exact extract_whole p
  have hl := h.2.2 0 (by omega)
  rw [Nat.zero_add, e] at hl
  refine ⟨hl, ?_⟩
  rw [h1]
  simp only [fpUp]
  rw [e]
/-- What the letters but the last find, and the last one. -/
theorem fp_last {ss : List Sc} {n : Int} {p : ByteArray} (h : fpOk ss n p) (h1 : 1 < p.size) :
    fpOk ss n (p.extract 0 (p.size - 1)) ∧ nameB (p.extract (p.size - 1) p.size) = true ∧ fpUp ss n.toNat p p.size = fpStep ss (fpUp ss n.toNat (p.extract 0 (p.size - 1)) (p.extract 0 (p.size - 1)).size) (p.extract (p.size - 1) p.size) := by
  have hs := size_head p (j := p.size - 1) (by omega)
  refine ⟨⟨h.1, by omega, ?_⟩, ?_, ?_⟩
  · rw [hs]; exact letters_head h.2.2 (by omega)
  · have := h.2.2 (p.size - 1) (by omega)
    rwa [show p.size - 1 + 1 = p.size by omega] at this
  · rw [hs, fpUp_head ss n.toNat p (Nat.le_refl _)]
    have := fpUp_succ ss n.toNat p (k := p.size - 1) (by omega)
    rwa [show p.size - 1 + 1 = p.size by omega] at this
end Go.Proofs.YtjogfagjcpcihaaGreatDoor
