/-
  Graphs as plain data, and what it says that memory holds one. Plain facts.
-/
import Derived.Test.YtlhlcdlkilpbhaaDoorRows2
namespace Go.Proofs.YtlhlcdlkilpbhaaDoor
open Go Go.RowKit
/-- An item, a scope; a graph is a list of scopes. -/
structure It where
  kind : Int
  name : ByteArray
  scope : Int
structure Sc where
  parent : Int
  items : List It
/-- A slice's cells hold these items. -/
def HoldsItems (w : World) (oa : Option Addr) (xs : List It) : Prop :=
  xs = [] ∨ ∃ b off, oa = some ⟨b, off, none⟩ ∧ b < w.heap.size ∧ ∀ i x, xs[i]? = some x →
    w.cell? ⟨b, off + i * 3, none⟩ = some (.int .i64 x.kind) ∧ w.cell? ⟨b, off + i * 3 + 1, none⟩ = some (.string x.name) ∧ w.cell? ⟨b, off + i * 3 + 2, none⟩ = some (.int .i64 x.scope)
/-- A slice's cells hold these scopes. -/
def HoldsScopes (w : World) (oa : Option Addr) (ss : List Sc) : Prop :=
  ss = [] ∨ ∃ b off, oa = some ⟨b, off, none⟩ ∧ b < w.heap.size ∧ ∀ i s, ss[i]? = some s →
    ∃ (oi : Option Addr) (ci : Nat), w.cell? ⟨b, off + i * 2, none⟩ = some (.int .i64 s.parent) ∧ w.cell? ⟨b, off + i * 2 + 1, none⟩ = some (.slice oi s.items.length ci) ∧ HoldsItems w oi s.items
theorem HoldsItems.below {w w' : World} {B : Nat} {oa : Option Addr} {xs : List It} (h : HoldsItems w oa xs) (hb : Below B w w') (hB : w.heap.size ≤ B) : HoldsItems w' oa xs := by
  rcases h with h | ⟨b, off, h1, h2, h3⟩
  · exact .inl h
  · refine .inr ⟨b, off, h1, Nat.lt_of_lt_of_le h2 hb.size, fun i x hx => ?_⟩
    obtain ⟨k0, k1, k2⟩ := h3 i x hx
    exact ⟨(hb.cell (p := ⟨b, _, none⟩) (Nat.lt_of_lt_of_le h2 hB)).trans k0, (hb.cell (p := ⟨b, _, none⟩) (Nat.lt_of_lt_of_le h2 hB)).trans k1, (hb.cell (p := ⟨b, _, none⟩) (Nat.lt_of_lt_of_le h2 hB)).trans k2⟩
theorem HoldsScopes.below {w w' : World} {B : Nat} {oa : Option Addr} {ss : List Sc} (h : HoldsScopes w oa ss) (hb : Below B w w') (hB : w.heap.size ≤ B) : HoldsScopes w' oa ss := by
  rcases h with h | ⟨b, off, h1, h2, h3⟩
  · exact .inl h
  · refine .inr ⟨b, off, h1, Nat.lt_of_lt_of_le h2 hb.size, fun i s hs => ?_⟩
    obtain ⟨oi, ci, k0, k1, k2⟩ := h3 i s hs
    exact ⟨oi, ci, (hb.cell (p := ⟨b, _, none⟩) (Nat.lt_of_lt_of_le h2 hB)).trans k0, (hb.cell (p := ⟨b, _, none⟩) (Nat.lt_of_lt_of_le h2 hB)).trans k1, k2.below hb hB⟩
/-- How heavy items, scopes are: one a part, and the letters of names. -/
def wItems : List It → Nat
  | [] => 0
  | x :: r => 1 + x.name.size + wItems r
def wScopes : List Sc → Nat
  | [] => 0
  | s :: r => 1 + wItems s.items + wScopes r
def nItems : List It → Nat
  | [] => 0
  | x :: r => x.name.size + nItems r
def nScopes : List Sc → Nat
  | [] => 0
  | s :: r => wItems s.items + nScopes r
theorem wItems_eq (xs : List It) : wItems xs = xs.length + nItems xs := by
  induction xs with
  | nil => rfl
  | cons x r ih => simp only [wItems, nItems, List.length_cons, ih]; omega
theorem wScopes_eq (ss : List Sc) : wScopes ss = ss.length + nScopes ss := by
  induction ss with
  | nil => rfl
  | cons x r ih => simp only [wScopes, nScopes, List.length_cons, ih]; omega
theorem nItems_snoc (xs : List It) (x : It) : nItems (xs ++ [x]) = nItems xs + x.name.size := by
  induction xs with
  | nil => simp [nItems]
  | cons y r ih => simp only [List.cons_append, nItems, ih]; omega
theorem nScopes_snoc (ss : List Sc) (s : Sc) : nScopes (ss ++ [s]) = nScopes ss + wItems s.items := by
  induction ss with
  | nil => simp [nScopes]
  | cons y r ih => simp only [List.cons_append, nScopes, ih]; omega
theorem nItems_step {xs : List It} {k : Nat} {x : It} (h : xs[k]? = some x) : nItems (xs.take (k + 1)) = nItems (xs.take k) + x.name.size := by
  rw [List.take_add_one, h]; exact nItems_snoc _ _
theorem nScopes_step {ss : List Sc} {k : Nat} {s : Sc} (h : ss[k]? = some s) : nScopes (ss.take (k + 1)) = nScopes (ss.take k) + wItems s.items := by
  rw [List.take_add_one, h]; exact nScopes_snoc _ _
theorem nItems_take_le : ∀ (xs : List It) (k : Nat), nItems (xs.take k) ≤ nItems xs
  | [], k => by simp
  | x :: r, 0 => by simp [nItems]
  | x :: r, k + 1 => by simp only [List.take_succ_cons, nItems]; have := nItems_take_le r k; omega
theorem nScopes_take_le : ∀ (ss : List Sc) (k : Nat), nScopes (ss.take k) ≤ nScopes ss
  | [], k => by simp
  | x :: r, 0 => by simp [nScopes]
  | x :: r, k + 1 => by simp only [List.take_succ_cons, nScopes]; have := nScopes_take_le r k; omega
/-- What is left of a bound behind a weight: -1 where it is passed. -/
def rest (left : Int) (n : Nat) : Int := if (n : Int) ≤ left then left - n else -1
theorem rest_neg {left : Int} {n : Nat} (h : left < n) : rest left n = -1 := by unfold rest; rw [if_neg (by omega)]
theorem rest_pos {left : Int} {n : Nat} (h : (n : Int) ≤ left) : rest left n = left - n := by unfold rest; rw [if_pos h]
end Go.Proofs.YtlhlcdlkilpbhaaDoor
