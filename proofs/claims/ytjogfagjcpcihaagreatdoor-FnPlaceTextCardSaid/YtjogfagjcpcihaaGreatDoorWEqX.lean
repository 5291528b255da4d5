/-
  The walks of the laws' weighing of graphs (szItem, szItemS, szScope, szScopeS, szGraph): what is left of the bound behind the weight, or -1; only new memory is written. Condition: names, lists of items and of scopes are no longer than a machine's numbers. The walks of the laws' copies of graphs (toItem, toItemS, toScope, toScopeS, toGraph): a graph in new memory that holds the same; only new memory is written. Condition: at most 2^20 scopes, and items in each. The walks of the laws' comparisons of graphs (eqItem, eqItemS, eqScope, eqScopeS, eqGraph): two that hold the same are told to be the same; only new memory is written. Condition: at most 2^20 scopes, and items in each.
-/
import Derived.Test.YtjogfagjcpcihaaGreatDoorBaseX
import Derived.Test.YtjogfagjcpcihaaGreatDoorProg
import Derived.Lib.Hide
import Derived.Outline
import Derived.Deep.DeepCutAuto
import Derived.Deep.QuietTactic
import Derived.BigQuiet
import Derived.Lib.QuietBelow
namespace Go.Proofs.YtjogfagjcpcihaaGreatDoor
open Go Go.RowKit
/-- Names and lists that a machine can hold. -/
def FitsItems (xs : List It) : Prop := xs.length ≤ 2 ^ 63 - 1 ∧ ∀ x ∈ xs, x.name.size ≤ 2 ^ 63 - 1
/-- Graphs that a machine can hold. -/
def FitsScopes (ss : List Sc) : Prop := ss.length ≤ 2 ^ 63 - 1 ∧ ∀ s ∈ ss, FitsItems s.items
end Go.Proofs.YtjogfagjcpcihaaGreatDoor
namespace Go.Proofs.YtjogfagjcpcihaaGreatDoor
open Go Go.RowKit
theorem infoItem : (Tryz.prog.info? 37).map (fun i => (i.zero, i.size, i.bytes)) = some (some (.agg #[.int .i64 0, .string ⟨#[]⟩, .int .i64 0]), 3, 32) := by kernel_rfl
theorem infoScope : (Tryz.prog.info? 156).map (fun i => (i.zero, i.size, i.bytes)) = some (some (.agg #[.int .i64 0, .slice none 0 0]), 2, 32) := by kernel_rfl
/-- The items' cells. -/
def itemCells (xs : List It) : List Value := xs.flatMap fun x => [.int .i64 x.kind, .string x.name, .int .i64 x.scope]
theorem itemCells_length (xs : List It) : (itemCells xs).length = 3 * xs.length := by
  induction xs with
  | nil => rfl
  | cons p r ih => unfold itemCells at ih ⊢; rw [List.flatMap_cons, List.length_append, ih]; simp; omega
theorem itemCells_snoc (xs : List It) (x : It) : itemCells (xs ++ [x]) = itemCells xs ++ [.int .i64 x.kind, .string x.name, .int .i64 x.scope] := by
  simp [itemCells]
theorem itemCells_at (xs : List It) : ∀ (i : Nat) (x : It), xs[i]? = some x → (itemCells xs)[i * 3]? = some (.int .i64 x.kind) ∧ (itemCells xs)[i * 3 + 1]? = some (.string x.name) ∧ (itemCells xs)[i * 3 + 2]? = some (.int .i64 x.scope) := by
  induction xs with
  | nil => intro i p h; simp at h
  | cons q r ih =>
    intro i p h
    have e : itemCells (q :: r) = .int .i64 q.kind :: .string q.name :: .int .i64 q.scope :: itemCells r := rfl
    cases i with
    | zero => simp at h; subst h; rw [e]; simp
    | succ i =>
      have := ih i p (by simpa using h)
      rw [e, show (i + 1) * 3 = i * 3 + 1 + 1 + 1 from by omega]
      simpa using this
end Go.Proofs.YtjogfagjcpcihaaGreatDoor
namespace Go.Proofs.YtjogfagjcpcihaaGreatDoor
open Go Go.RowKit
/-- An item's three cells. -/
theorem HoldsItems.at {w : World} {oa : Option Addr} {xs : List It} (h : HoldsItems w oa xs) (hne : 0 < xs.length) : ∃ b off, oa = some ⟨b, off, none⟩ ∧ b < w.heap.size ∧ ∀ i x, xs[i]? = some x →
    w.cell? ⟨b, off + i * 3, none⟩ = some (.int .i64 x.kind) ∧ w.cell? ⟨b, off + i * 3 + 1, none⟩ = some (.string x.name) ∧ w.cell? ⟨b, off + i * 3 + 2, none⟩ = some (.int .i64 x.scope) := by
  rcases h with h | h
  · subst h; simp at hne
  · exact h
theorem HoldsScopes.at {w : World} {oa : Option Addr} {ss : List Sc} (h : HoldsScopes w oa ss) (hne : 0 < ss.length) : ∃ b off, oa = some ⟨b, off, none⟩ ∧ b < w.heap.size ∧ ∀ i s, ss[i]? = some s →
    ∃ (oi : Option Addr) (ci : Nat), w.cell? ⟨b, off + i * 2, none⟩ = some (.int .i64 s.parent) ∧ w.cell? ⟨b, off + i * 2 + 1, none⟩ = some (.slice oi s.items.length ci) ∧ HoldsItems w oi s.items := by
  rcases h with h | h
  · subst h; simp at hne
  · exact h
end Go.Proofs.YtjogfagjcpcihaaGreatDoor
