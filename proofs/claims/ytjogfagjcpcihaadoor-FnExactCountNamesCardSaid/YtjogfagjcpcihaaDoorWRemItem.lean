/-
  The walks of RemoveItem, given and impl. Conditions: the argument's memory holds the graph; the package-level errors hold errors.
-/
import Derived.Test.YtjogfagjcpcihaaDoorWSpecRemove2
import Derived.Test.YtjogfagjcpcihaaDoorWMarkR
namespace Go.Proofs.YtjogfagjcpcihaaDoor
open Go Go.RowKit
/-- The graph without the item at a place. -/
def rmvAt (ss : List Sc) (a b : Int) : List Sc := rmvP ss a.toNat b.toNat
theorem rmvAt_nat (ss : List Sc) (i j : Nat) : rmvAt ss (i : Int) (j : Int) = rmvP ss i j := by unfold rmvAt; rw [Int.toNat_natCast, Int.toNat_natCast]
theorem item_where {ss : List Sc} {a b : Int} {x : It} (h : itemAtP ss a b = some x) : ∃ (i j : Nat) (c : Sc), a = (i : Int) ∧ b = (j : Int) ∧ ss[i]? = some c ∧ c.items[j]? = some x := by
  unfold itemAtP at h
  split at h
  · rename_i h0
    obtain ⟨c, hc, hx⟩ := Option.bind_eq_some_iff.1 h
    exact ⟨a.toNat, b.toNat, c, by omega, by omega, hc, hx⟩
  · cases h
/-- What the given l6RawRemoveItem answers. -/
def RawRem (ss : List Sc) (a b : Int) (w : World) (e : Ending) (w' : World) : Prop :=
  (¬ itemHas ss a b ∧ e = .returned (.tuple #[.agg #[.slice none 0 0], .bool false]) ∧ Below w.heap.size w w') ∨
  (itemHas ss a b ∧ ∃ ov cv, e = .returned (.tuple #[.agg #[.slice ov ss.length cv], .bool true]) ∧ HoldsScopes w' ov (rmvAt ss a b) ∧ Below w.heap.size w w')
end Go.Proofs.YtjogfagjcpcihaaDoor
