/-
  A graph from which all that can be removed is removed, again and again. Plain facts.
-/
import Derived.Test.YtimcobenmgbciaaDoorJC
import Derived.Test.YtimcobenmgbciaaDoorJE
namespace Go.Proofs.YtimcobenmgbciaaDoor
open Go Go.RowKit
/-- Whether an item can be removed: no reference, and nothing changes. -/
def unB (ss : List Sc) (q : Nat × Nat × It) : Bool := decide (q.2.2.kind ≠ 2) && decide (chgP ss q.1 q.2.1 = [])
/-- At most so many items removed, each time the first that can be. -/
def unP : Nat → List Sc → List Sc
  | 0, ss => ss
  | n + 1, ss => match (placed 0 ss).find? (unB ss) with
    | none => ss
    | some q => unP n (rmvP ss q.1 q.2.1)
def unusedP (ss : List Sc) : List Sc := unP (placed 0 ss).length ss
theorem unP_done {n : Nat} {ss : List Sc} (h : ∀ q ∈ placed 0 ss, unB ss q = false) : unP n ss = ss := by
  cases n with
  | zero => rfl
  | succ n =>
    unfold unP
    rw [List.find?_eq_none.2 (fun q hq => by rw [h q hq]; decide)]
theorem unP_step {n : Nat} {ss : List Sc} {l1 l2 : List (Nat × Nat × It)} {q : Nat × Nat × It} (h : placed 0 ss = l1 ++ q :: l2) (ha : ∀ r ∈ l1, unB ss r = false) (hq : unB ss q = true) : unP (n + 1) ss = unP n (rmvP ss q.1 q.2.1) := by
  have h1 : (placed 0 ss).find? (unB ss) = some q := List.find?_eq_some_iff_append.2 ⟨hq, l1, l2, h, fun r hr => by rw [ha r hr]; rfl⟩
  conv => lhs; unfold unP
  rw [h1]
theorem placed_len : ∀ (ss : List Sc) (i : Nat), (placed i ss).length = (ss.map fun s => s.items.length).sum
  | [], i => rfl
  | s :: r, i => by simp [placed, placed_len r (i + 1)]
theorem rmv_len : ∀ (ss : List Sc) (a b : Nat) (s : Sc), ss[a]? = some s → b < s.items.length → ((rmvP ss a b).map fun s => s.items.length).sum + 1 = (ss.map fun s => s.items.length).sum
  | [], a, b, s, h, _ => by simp at h
  | t :: r, 0, b, s, h, hb => by
    simp only [List.getElem?_cons_zero, Option.some.injEq] at h
    subst h
    simp only [rmvP, rmvSc, List.map_cons, List.sum_cons, List.length_eraseIdx, hb, if_true]
    omega
  | t :: r, a + 1, b, s, h, hb => by
    have h2 := rmv_len r a b s (by simpa using h) hb
    simp only [rmvP, List.map_cons, List.sum_cons]
    omega
theorem placed_rmv_len {ss : List Sc} {a b : Nat} {s : Sc} {x : It} (hs : ss[a]? = some s) (hx : s.items[b]? = some x) : (placed 0 (rmvP ss a b)).length + 1 = (placed 0 ss).length := by
  rw [placed_len, placed_len]
  exact rmv_len ss a b s hs (List.getElem?_eq_some_iff.1 hx).1
theorem unP_small : ∀ (n : Nat) (ss : List Sc), Valid ss → Fair ss → Valid (unP n ss) ∧ Fair (unP n ss)
  | 0, ss, h, k => ⟨h, k⟩
  | n + 1, ss, h, k => by
    unfold unP
    cases (placed 0 ss).find? (unB ss) with
    | none => exact ⟨h, k⟩
    | some q => exact unP_small n _ (h.rmv _ _) (k.rmv _ _)
/-- One step, told by the item that the two loops have come to. -/
theorem unP_at {n k m : Nat} {us U : List Sc} {s : Sc} {x : It} (hs : us[k]? = some s) (hx : s.items[m]? = some x) (hno : ∀ q ∈ uptoP us k m, unB us q = false) (hy : unB us (k, m, x) = true) (hl : (placed 0 us).length ≤ n) (hu : unP n us = U) :
    ∃ n', n = n' + 1 ∧ (placed 0 (rmvP us k m)).length ≤ n' ∧ unP n' (rmvP us k m) = U := by
  obtain ⟨rest, hr⟩ := uptoP_prefix (j := m + 1) hs
  rw [uptoP_next hs hx, List.append_assoc] at hr
  have h1 := placed_rmv_len hs hx
  cases n with
  | zero => omega
  | succ n =>
    refine ⟨n, rfl, by omega, ?_⟩
    rw [← hu, unP_step hr.symm hno hy]
end Go.Proofs.YtimcobenmgbciaaDoor
