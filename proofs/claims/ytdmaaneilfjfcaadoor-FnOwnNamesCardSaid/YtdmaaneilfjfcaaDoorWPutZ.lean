/-
  The walks of impl's taking, putting, the closures that they hand back, and (Graph).with over whatever edits. Conditions: the argument's memory holds the graph; each edit does what is told of it.
-/
import Derived.Test.YtdmaaneilfjfcaaDoorJC
namespace Go.Proofs.YtdmaaneilfjfcaaDoor
open Go Go.RowKit
/-- The cells of a slice of edits. -/
def HoldsFuncs (w : World) (oe : Option Addr) (es : List Value) : Prop := es = [] ∨ ∃ b off, oe = some ⟨b, off, none⟩ ∧ b < w.heap.size ∧ ∀ i u, es[i]? = some u → w.cell? ⟨b, off + i, none⟩ = some u
theorem HoldsFuncs.below {w w' : World} {oe : Option Addr} {es : List Value} (h : HoldsFuncs w oe es) (hb : Below w.heap.size w w') : HoldsFuncs w' oe es := by
  rcases h with h | ⟨b, off, h1, h2, h3⟩
  · exact .inl h
  · exact .inr ⟨b, off, h1, Nat.lt_of_lt_of_le h2 hb.size, fun i u hu => (hb.cell (p := ⟨b, off + i, none⟩) h2).trans (h3 i u hu)⟩
theorem HoldsFuncs.at {w : World} {oe : Option Addr} {es : List Value} (h : HoldsFuncs w oe es) {k : Nat} {u : Value} (hu : es[k]? = some u) : ∃ b off, oe = some ⟨b, off, none⟩ ∧ b < w.heap.size ∧ w.cell? ⟨b, off + k, none⟩ = some u := by
  rcases h with h | ⟨b, off, h1, h2, h3⟩
  · subst h; simp at hu
  · exact ⟨b, off, h1, h2, h3 k u hu⟩
end Go.Proofs.YtdmaaneilfjfcaaDoor
