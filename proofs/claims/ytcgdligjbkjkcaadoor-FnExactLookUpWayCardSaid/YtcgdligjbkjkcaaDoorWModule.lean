/-
  The walks of ModuleOf, the given one and impl's. Conditions: the argument's memory holds the graph; the package-level errors hold errors.
-/
import Derived.Test.YtcgdligjbkjkcaaDoorModuleP
import Derived.Test.YtcgdligjbkjkcaaDoorWItemAt
import Derived.Test.YtcgdligjbkjkcaaDoorWNode
namespace Go.Proofs.YtcgdligjbkjkcaaDoor
open Go Go.RowKit Go.Maps
theorem find_atG {α : Type} {l : List α} {p : α → Bool} {k : Nat} {x : α} (hx : l[k]? = some x) (hp : p x = true) (hn : ∀ m, m ∈ l.take k → p m = false) : l.find? p = some x := by
  have hk := (List.getElem?_eq_some_iff.1 hx).1
  have e : l = l.take k ++ x :: l.drop (k + 1) := by
    have h1 := List.drop_eq_getElem_cons hk
    rw [(List.getElem?_eq_some_iff.1 hx).2] at h1
    rw [← h1, List.take_append_drop]
  rw [e, List.find?_append, List.find?_cons_of_pos hp, List.find?_eq_none.2 (fun m hm => by simp [hn m hm])]
  rfl
theorem field_kind (k s : Int) (nm : ByteArray) (w : World) : (Instr.field 83 (.agg #[.int .i64 k, .string nm, .int .i64 s]) 0).run Tryd.prog w = .ok (.int .i64 k) w := by kernel_rfl
theorem field_name (k s : Int) (nm : ByteArray) (w : World) : (Instr.field 83 (.agg #[.int .i64 k, .string nm, .int .i64 s]) 1).run Tryd.prog w = .ok (.string nm) w := by kernel_rfl
theorem field_scope (k s : Int) (nm : ByteArray) (w : World) : (Instr.field 83 (.agg #[.int .i64 k, .string nm, .int .i64 s]) 2).run Tryd.prog w = .ok (.int .i64 s) w := by kernel_rfl
attribute [local go_sem ↓] field_kind field_name field_scope
/-- What ModuleOf answers. -/
def moduleR (ss : List Sc) (n a b : Int) (ok : Bool) : Prop := (¬ HasScope ss n ∧ a = 0 ∧ b = 0 ∧ ok = false) ∨ (HasScope ss n ∧ modR ss n a b ok)
theorem moduleR.same {ss : List Sc} {n a b c d : Int} {ok ok' : Bool} (h : moduleR ss n a b ok) (k : moduleR ss n c d ok') : a = c ∧ b = d ∧ ok = ok' := by
  rcases h with ⟨h1, rfl, rfl, rfl⟩ | ⟨h1, h2⟩ <;> rcases k with ⟨k1, rfl, rfl, rfl⟩ | ⟨k1, k2⟩
  · exact ⟨rfl, rfl, rfl⟩
  · exact absurd k1 h1
  · exact absurd h1 k1
  · exact h2.same k2
def plV (a b : Int) : Value := .agg #[.int .i64 a, .int .i64 b]
/-- What ModuleOf leaves. -/
def ModuleGot (ss : List Sc) (n : Int) (w : World) (e : Ending) (w' : World) : Prop := ∃ a b ok, e = .returned (.tuple #[.agg #[.int .i64 a, .int .i64 b], .bool ok]) ∧ moduleR ss n a b ok ∧ Below w.heap.size w w'
end Go.Proofs.YtcgdligjbkjkcaaDoor
