/-
  The walks of the given and of impl's SameShape, of impl's sameShape for items and scopes, and of slices.EqualFunc with them. Conditions: the arguments' memory holds the graphs; impl's: the package-level errors hold errors.
-/
import Derived.Test.YtjogfagjcpcihaaDoorWRemItem
import Derived.Test.YtjogfagjcpcihaaDoorWImplValid
import Derived.Test.YtjogfagjcpcihaaDoorWSpecValid
import Derived.Test.YtjogfagjcpcihaaDoorJC
import Derived.Deep.QuietTactic
import Derived.BigQuiet
namespace Go.Proofs.YtjogfagjcpcihaaDoor
open Go Go.RowKit
/-- What of an item, of a scope a shape holds. -/
def shI (x : It) : Int × Int := (x.kind, x.scope)
def shS (s : Sc) : Int × List (Int × Int) := (s.parent, s.items.map shI)
theorem map_get {α β : Type} {f : α → β} {xs ys : List α} (h : xs.map f = ys.map f) {k : Nat} {x y : α} (hx : xs[k]? = some x) (hy : ys[k]? = some y) : f x = f y := by
  have h1 : (xs.map f)[k]? = (ys.map f)[k]? := by rw [h]
  rw [List.getElem?_map, List.getElem?_map, hx, hy] at h1
  exact Option.some.inj h1
theorem map_all {α β : Type} {f : α → β} {xs ys : List α} (hl : xs.length = ys.length) (h : ∀ (k : Nat) (x y : α), xs[k]? = some x → ys[k]? = some y → f x = f y) : xs.map f = ys.map f := by
  refine List.ext_getElem? fun k => ?_
  rw [List.getElem?_map, List.getElem?_map]
  by_cases hk : k < xs.length
  · rw [List.getElem?_eq_getElem hk, List.getElem?_eq_getElem (show k < ys.length by omega)]
    exact congrArg some (h k _ _ (List.getElem?_eq_getElem hk) (List.getElem?_eq_getElem (by omega)))
  · rw [List.getElem?_eq_none (by omega), List.getElem?_eq_none (by omega)]
theorem HoldsItems.got {w : World} {oa : Option Addr} {xs : List It} (h : HoldsItems w oa xs) {k : Nat} {x : It} (hx : xs[k]? = some x) : ∃ b off, oa = some ⟨b, off, none⟩ ∧ b < w.heap.size ∧ w.cell? ⟨b, off + k * 3, none⟩ = some (.int .i64 x.kind) ∧ w.cell? ⟨b, off + k * 3 + 1, none⟩ = some (.string x.name) ∧ w.cell? ⟨b, off + k * 3 + 2, none⟩ = some (.int .i64 x.scope) := by
  rcases h with rfl | ⟨b, off, h1, h2, h3⟩
  · cases hx
  · exact ⟨b, off, h1, h2, h3 k x hx⟩
theorem HoldsScopes.got {w : World} {oa : Option Addr} {ss : List Sc} (h : HoldsScopes w oa ss) {k : Nat} {s : Sc} (hx : ss[k]? = some s) : ∃ b off, oa = some ⟨b, off, none⟩ ∧ b < w.heap.size ∧ ∃ (oi : Option Addr) (ci : Nat), w.cell? ⟨b, off + k * 2, none⟩ = some (.int .i64 s.parent) ∧ w.cell? ⟨b, off + k * 2 + 1, none⟩ = some (.slice oi s.items.length ci) ∧ HoldsItems w oi s.items := by
  rcases h with rfl | ⟨b, off, h1, h2, h3⟩
  · cases hx
  · exact ⟨b, off, h1, h2, h3 k s hx⟩
/-- Two graphs of one shape. -/
def SameSh (ss tt : List Sc) : Prop := Valid ss ∧ Valid tt ∧ ss.map shS = tt.map shS
end Go.Proofs.YtjogfagjcpcihaaDoor
