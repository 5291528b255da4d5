/-
  The walks of the laws' weighing of graphs (szItem, szItemS, szScope, szScopeS, szGraph): what is left of the bound behind the weight, or -1; only new memory is written. Condition: names, lists of items and of scopes are no longer than a machine's numbers. The walks of the laws' copies of graphs (toItem, toItemS, toScope, toScopeS, toGraph): a graph in new memory that holds the same; only new memory is written. Condition: at most 2^20 scopes, and items in each. The walks of the laws' comparisons of graphs (eqItem, eqItemS, eqScope, eqScopeS, eqGraph): two that hold the same are told to be the same; only new memory is written. Condition: at most 2^20 scopes, and items in each.
-/
import Derived.Test.YtimcobenmgbciaaDoorBaseZ
import Derived.Test.YtimcobenmgbciaaDoorProg
import Derived.Lib.Hide
import Derived.Outline
import Derived.Deep.DeepCutAuto
import Derived.Deep.QuietTactic
import Derived.BigQuiet
import Derived.Lib.QuietBelow
namespace Go.Proofs.YtimcobenmgbciaaDoor
open Go Go.RowKit
/-- Names and lists that a machine can hold. -/
def FitsItems (xs : List It) : Prop := xs.length ≤ 2 ^ 63 - 1 ∧ ∀ x ∈ xs, x.name.size ≤ 2 ^ 63 - 1
/-- Graphs that a machine can hold. -/
def FitsScopes (ss : List Sc) : Prop := ss.length ≤ 2 ^ 63 - 1 ∧ ∀ s ∈ ss, FitsItems s.items
end Go.Proofs.YtimcobenmgbciaaDoor
namespace Go.Proofs.YtimcobenmgbciaaDoor
open Go Go.RowKit
theorem infoItem : (Tryd.prog.info? 38).map (fun i => (i.zero, i.size, i.bytes)) = some (some (.agg #[.int .i64 0, .string ⟨#[]⟩, .int .i64 0]), 3, 32) := by kernel_rfl
theorem infoScope : (Tryd.prog.info? 118).map (fun i => (i.zero, i.size, i.bytes)) = some (some (.agg #[.int .i64 0, .slice none 0 0]), 2, 32) := by kernel_rfl
/-- The items' cells. -/
def itemCells (xs : List It) : List Value := xs.flatMap fun x => [.int .i64 x.kind, .string x.name, .int .i64 x.scope]
theorem itemCells_length (xs : List It) : (itemCells xs).length = 3 * xs.length := by
  induction xs with
  | nil => rfl
  | cons p r ih => unfold itemCells at ih ⊢; rw [List.flatMap_cons, List.length_append, ih]; simp; omega
theorem itemCells_snoc (xs : List It) (x : It) : itemCells (xs ++ [x]) = itemCells xs ++ [.int .i64 x.kind, .string x.name, .int .i64 x.scope] := by
  simp [itemCells]
theorem itemCells_at (xs : List It) : ∀ (i : Nat) (x : It), xs[i]? = some x → (itemCells xs)[i * 3]? = some (.int .i64 x.kind) ∧ (itemCells xs)[i * 3 + 1]? = some (.string x.name) ∧ (itemCells xs)[i * 3 + 2]? = some (.int .i64 x.scope) := by
  induction xs with
  | nil => intro i p h; simp at h
  | cons q r ih =>
    intro i p h
    have e : itemCells (q :: r) = .int .i64 q.kind :: .string q.name :: .int .i64 q.scope :: itemCells r := rfl
    cases i with
    | zero => simp at h; subst h; rw [e]; simp
    | succ i =>
      have := ih i p (by simpa using h)
      rw [e, show (i + 1) * 3 = i * 3 + 1 + 1 + 1 from by omega]
      simpa using this
/-- A block's row that holds items. -/
theorem Row.items {w : World} {g : Nat} {t : TypeId} {xs : List It} (h : Row w g t (itemCells xs)) : HoldsItems w (some ⟨g, 0, none⟩) xs := by
  refine .inr ⟨g, 0, rfl, h.lt, fun i x hx => ?_⟩
  obtain ⟨h1, h2, h3⟩ := itemCells_at xs i x hx
  exact ⟨by rw [Nat.zero_add]; exact h.cell h1, by rw [Nat.zero_add]; exact h.cell h2, by rw [Nat.zero_add]; exact h.cell h3⟩
/-- The first k scopes of a list are laid in a row of a graph of its own, each with its items in a row behind it. -/
def Laid (w : World) (g0 : Nat) (vs : List Value) (ss : List Sc) (k : Nat) : Prop :=
  ∀ i s, i < k → ss[i]? = some s → ∃ gi, vs[i * 2]? = some (.int .i64 s.parent) ∧ vs[i * 2 + 1]? = some (.slice (some ⟨gi, 0, none⟩) s.items.length s.items.length) ∧ g0 < gi ∧ Row w gi 38 (itemCells s.items)
theorem Laid.below {w w' : World} {g0 : Nat} {vs : List Value} {ss : List Sc} {k : Nat} (h : Laid w g0 vs ss k) (hb : Below w.heap.size w w') : Laid w' g0 vs ss k := by
  intro i s hi hs
  obtain ⟨gi, a, b, c, d⟩ := h i s hi hs
  exact ⟨gi, a, b, c, d.below hb d.lt⟩
theorem Laid.other {w : World} {g0 : Nat} {vs : List Value} {ss : List Sc} {k : Nat} (h : Laid w g0 vs ss k) {a : Addr} (ha : a.block ≤ g0) (v : Value) : Laid (w.setCell a v) g0 vs ss k := by
  intro i s hi hs
  obtain ⟨gi, p, q, c, d⟩ := h i s hi hs
  exact ⟨gi, p, q, c, d.other (by omega) _⟩
theorem Laid.step {w : World} {g0 : Nat} {vs : List Value} {ss : List Sc} {k gi : Nat} {s : Sc} (h : Laid w g0 vs ss k) (hl : vs.length = 2 * ss.length) (hs : ss[k]? = some s) (hg : g0 < gi) (hr : Row w gi 38 (itemCells s.items)) :
    Laid ((w.setCell ⟨g0, k * 2, none⟩ (.int .i64 s.parent)).setCell ⟨g0, k * 2 + 1, none⟩ (.slice (some ⟨gi, 0, none⟩) s.items.length s.items.length)) g0
      ((vs.set (k * 2) (.int .i64 s.parent)).set (k * 2 + 1) (.slice (some ⟨gi, 0, none⟩) s.items.length s.items.length)) ss (k + 1) := by
  have hk := (List.getElem?_eq_some_iff.1 hs).1
  intro i t hi ht
  by_cases he : i = k
  · subst he
    rw [hs] at ht; cases ht
    refine ⟨gi, ?_, ?_, hg, (hr.other (by simp; omega) _).other (by simp; omega) _⟩
    · rw [List.getElem?_set_ne (by omega), List.getElem?_set_self (by omega)]
    · rw [List.getElem?_set_self (by simp; omega)]
  · obtain ⟨gj, a, b, c, d⟩ := h i t (by omega) ht
    refine ⟨gj, ?_, ?_, c, (d.other (by simp; omega) _).other (by simp; omega) _⟩
    · rw [List.getElem?_set_ne (by omega), List.getElem?_set_ne (by omega)]; exact a
    · rw [List.getElem?_set_ne (by omega), List.getElem?_set_ne (by omega)]; exact b
theorem Laid.holds {w : World} {g0 : Nat} {t : TypeId} {vs : List Value} {ss : List Sc} (h : Laid w g0 vs ss ss.length) (hr : Row w g0 t vs) : HoldsScopes w (some ⟨g0, 0, none⟩) ss := by
  refine .inr ⟨g0, 0, rfl, hr.lt, fun i s hs => ?_⟩
  obtain ⟨gi, a, b, _, d⟩ := h i s (List.getElem?_eq_some_iff.1 hs).1 hs
  exact ⟨_, _, by rw [Nat.zero_add]; exact hr.cell a, by rw [Nat.zero_add]; exact hr.cell b, d.items⟩
end Go.Proofs.YtimcobenmgbciaaDoor
namespace Go.Proofs.YtimcobenmgbciaaDoor
open Go Go.RowKit
/-- An item's three cells. -/
theorem HoldsItems.at {w : World} {oa : Option Addr} {xs : List It} (h : HoldsItems w oa xs) (hne : 0 < xs.length) : ∃ b off, oa = some ⟨b, off, none⟩ ∧ b < w.heap.size ∧ ∀ i x, xs[i]? = some x →
    w.cell? ⟨b, off + i * 3, none⟩ = some (.int .i64 x.kind) ∧ w.cell? ⟨b, off + i * 3 + 1, none⟩ = some (.string x.name) ∧ w.cell? ⟨b, off + i * 3 + 2, none⟩ = some (.int .i64 x.scope) := by
  rcases h with h | h
  · subst h; simp at hne
  · exact h
theorem HoldsScopes.at {w : World} {oa : Option Addr} {ss : List Sc} (h : HoldsScopes w oa ss) (hne : 0 < ss.length) : ∃ b off, oa = some ⟨b, off, none⟩ ∧ b < w.heap.size ∧ ∀ i s, ss[i]? = some s →
    ∃ (oi : Option Addr) (ci : Nat), w.cell? ⟨b, off + i * 2, none⟩ = some (.int .i64 s.parent) ∧ w.cell? ⟨b, off + i * 2 + 1, none⟩ = some (.slice oi s.items.length ci) ∧ HoldsItems w oi s.items := by
  rcases h with h | h
  · subst h; simp at hne
  · exact h
end Go.Proofs.YtimcobenmgbciaaDoor
