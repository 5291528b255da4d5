/-
  The walks of impl's taking, putting, the closures that they hand back, and (Graph).with over whatever edits. Conditions: the argument's memory holds the graph; each edit does what is told of it.
-/
import Derived.Test.YtjogfagjcpcihaaDoorJC
namespace Go.Proofs.YtjogfagjcpcihaaDoor
open Go Go.RowKit
/-- What an edit does to a graph in a box, in every world behind w. -/
def EditOk (w : World) (u : Value) (us tt : List Sc) : Prop := ∃ (f : Nat) (pb lb : Array Value), u = .func (.func f) pb lb ∧ (pb = #[] ∨ ∃ r, pb = #[r]) ∧ (∀ args W, (callFunc f args).run Tryd.prog W = .ok (.enter f args) W) ∧
  ∀ (W : World) (B g gs cs : Nat) (hs : List Value), Below w.heap.size w W → w.heap.size ≤ B → B ≤ W.heap.size → GrIn W B g gs cs us hs →
    Calls Tryd.prog f (pb ++ #[.pointer (some ⟨g, 0, none⟩)] ++ lb) W fun e W' => (∃ v, e = .returned v) ∧ ∃ hs', GrIn W' B g gs cs tt hs' ∧ Below B W W'
inductive Edits (w : World) : List Value → List Sc → List Sc → Prop
  | nil (ss : List Sc) : Edits w [] ss ss
  | cons {u : Value} {es : List Value} {ss tt uu : List Sc} (h : EditOk w u ss tt) (k : Edits w es tt uu) : Edits w (u :: es) ss uu
/-- The cells of a slice of edits. -/
def HoldsFuncs (w : World) (oe : Option Addr) (es : List Value) : Prop := es = [] ∨ ∃ b off, oe = some ⟨b, off, none⟩ ∧ b < w.heap.size ∧ ∀ i u, es[i]? = some u → w.cell? ⟨b, off + i, none⟩ = some u
theorem HoldsFuncs.below {w w' : World} {oe : Option Addr} {es : List Value} (h : HoldsFuncs w oe es) (hb : Below w.heap.size w w') : HoldsFuncs w' oe es := by
  rcases h with h | ⟨b, off, h1, h2, h3⟩
  · exact .inl h
  · exact .inr ⟨b, off, h1, Nat.lt_of_lt_of_le h2 hb.size, fun i u hu => (hb.cell (p := ⟨b, off + i, none⟩) h2).trans (h3 i u hu)⟩
theorem HoldsFuncs.at {w : World} {oe : Option Addr} {es : List Value} (h : HoldsFuncs w oe es) {k : Nat} {u : Value} (hu : es[k]? = some u) : ∃ b off, oe = some ⟨b, off, none⟩ ∧ b < w.heap.size ∧ w.cell? ⟨b, off + k, none⟩ = some u := by
  rcases h with h | ⟨b, off, h1, h2, h3⟩
  · subst h; simp at hu
  · exact ⟨b, off, h1, h2, h3 k u hu⟩
end Go.Proofs.YtjogfagjcpcihaaDoor
