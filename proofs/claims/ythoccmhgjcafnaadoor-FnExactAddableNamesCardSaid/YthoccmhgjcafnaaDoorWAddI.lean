/-
  The walks of impl's AddDeclaration and AddImport. Conditions: the argument's memory holds the graph; the package-level errors hold errors.
-/
import Derived.Test.YthoccmhgjcafnaaDoorWAdd
import Derived.Test.YthoccmhgjcafnaaDoorWMarkR
namespace Go.Proofs.YthoccmhgjcafnaaDoor
open Go Go.RowKit
def addOk (ss : List Sc) (n : Int) (nm : ByteArray) : Prop := Room ss n ∧ nameB nm = true
/-- The graph with an item more of a kind and a name; where it stands. -/
def addAt (ss : List Sc) (n kind : Int) (nm : ByteArray) : List Sc := addP ss n.toNat ⟨kind, nm, -1⟩
def endAt (ss : List Sc) (n : Int) : Int := match ss[n.toNat]? with
  | some c => c.items.length
  | none => 0
theorem endAt_nat {ss : List Sc} {i : Nat} {c : Sc} (h : ss[i]? = some c) : endAt ss (i : Int) = (c.items.length : Int) := by
  unfold endAt
  rw [Int.toNat_natCast, h]
/-- A graph, a place and a truth, as a call hands them back. -/
def GrPlGot (ok : Prop) (l : List Sc) (a b : Int) (w : World) (e : Ending) (w' : World) : Prop :=
  (¬ ok ∧ ∃ v hs, e = .returned (.tuple #[.agg #[v], .agg #[.int .i64 0, .int .i64 0], .bool false]) ∧ OwnGr w' w.heap.size v [] hs ∧ Below w.heap.size w w') ∨
  (ok ∧ ∃ v hs, e = .returned (.tuple #[.agg #[v], .agg #[.int .i64 a, .int .i64 b], .bool true]) ∧ OwnGr w' w.heap.size v l hs ∧ Below w.heap.size w w')
theorem OwnGr.past {w : World} {B g : Nat} {v x : Value} {ss : List Sc} {hs vs : List Value} (h : OwnGr w B v ss hs) (hr : Row w g 31 vs) : OwnGr (w.setCell ⟨g, 0, none⟩ x) B v ss hs :=
  ⟨h.len, ownsRow_otherN h.row hr (by decide) 0 _, fun k t z h1 h2 => ownsRow_otherN (h.items k t z h1 h2) hr (by decide) 0 _, h.apart⟩
theorem OwnGr.pastP {w : World} {B g i : Nat} {v x : Value} {ss : List Sc} {hs vs : List Value} (h : OwnGr w B v ss hs) (hr : Row w g 44 vs) : OwnGr (w.setCell ⟨g, i, none⟩ x) B v ss hs :=
  ⟨h.len, ownsRow_otherN h.row hr (by decide) i _, fun k t z h1 h2 => ownsRow_otherN (h.items k t z h1 h2) hr (by decide) i _, h.apart⟩
theorem OwnGr.drew {w : World} {B : Nat} {v : Value} {ss : List Sc} {hs : List Value} (h : OwnGr w B v ss hs) : OwnGr w.drew B v ss hs := h.below ((Below.refl _ _).drew)
end Go.Proofs.YthoccmhgjcafnaaDoor
