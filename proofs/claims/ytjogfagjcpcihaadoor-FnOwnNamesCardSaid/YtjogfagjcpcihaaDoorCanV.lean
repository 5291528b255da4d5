/-
  A truth that tells whether a list is there and empty. Plain facts.
-/
import Derived.Test.YtjogfagjcpcihaaDoorBase
namespace Go.Proofs.YtjogfagjcpcihaaDoor
open Go Go.RowKit
/-- A truth that tells whether a list is there and empty. -/
def CanVal (ok : Prop) (l : List (Int × Int)) (b : Bool) : Prop := (¬ ok ∧ b = false) ∨ (ok ∧ b = decide (l = []))
theorem CanVal.same {ok : Prop} {l : List (Int × Int)} {b b' : Bool} (h : CanVal ok l b) (k : CanVal ok l b') : b = b' := by
  rcases h with ⟨h1, h2⟩ | ⟨h1, h2⟩ <;> rcases k with ⟨k1, k2⟩ | ⟨k1, k2⟩
  · rw [h2, k2]
  · exact absurd k1 h1
  · exact absurd h1 k1
  · rw [h2, k2]
theorem len_zero (l : List (Int × Int)) : ((l.length : Int) == 0) = decide (l = []) := by
  cases l with
  | nil => rfl
  | cons a r => simp; omega
end Go.Proofs.YtjogfagjcpcihaaDoor
