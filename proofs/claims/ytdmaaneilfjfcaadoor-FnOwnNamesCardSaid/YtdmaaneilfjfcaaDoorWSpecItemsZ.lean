/-
  The walks of the given l4Resolve, ResolveItem and StateOf. Condition: the argument's memory holds the graph. The walks of the given l4Items, ItemsIn and IsSound. Conditions: the argument's memory holds the graph; it has at most 2^20 items.
-/
import Derived.Test.YtdmaaneilfjfcaaDoorJEZ
import Derived.Test.YtdmaaneilfjfcaaDoorJD
import Derived.Test.YtdmaaneilfjfcaaDoorWImplItemsZ
namespace Go.Proofs.YtdmaaneilfjfcaaDoor
open Go Go.RowKit Go.Maps
attribute [local go_sem ↓] field_kind field_name field_scope
end Go.Proofs.YtdmaaneilfjfcaaDoor
namespace Go.Proofs.YtdmaaneilfjfcaaDoor
open Go Go.RowKit Go.Maps
/-- At the head of a round over a list of places: the graph's box, the list in the making, the list that is gone through. -/
structure ItemsAt (w wr : World) (oa : Option Addr) (cap n b2 : Nat) (v tl : Value) (l all : List (Int × Int)) : Prop where
  box : Row wr w.heap.size 25 [.slice oa n cap]
  row : wr.ownsRow w.heap.size 35 2 v l.length (placeCells l)
  lst : wr.ownsRow b2 35 2 tl all.length (placeCells all)
  far : tl = .slice none 0 0 ∨ tl.ownBlock ≠ v.ownBlock
  below : Below w.heap.size w wr
theorem ItemsAt.step {w wr w' : World} {oa : Option Addr} {cap n b2 : Nat} {v tl : Value} {l all : List (Int × Int)} (h : ItemsAt w wr oa cap n b2 v tl l all) (hb : Below wr.heap.size wr w') : ItemsAt w w' oa cap n b2 v tl l all where
  box := h.box.below hb h.box.lt
  row := ownsRow_below h.row hb
  lst := ownsRow_below h.lst hb
  far := h.far
  below := h.below.trans (hb.mono h.below.size)
end Go.Proofs.YtdmaaneilfjfcaaDoor
