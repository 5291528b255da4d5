/-
  The walks of the given l9Clear and l9Meant. Condition: the argument's memory holds the graph. The walks of the given l9Put, l9Named, l9RawNamedGraph and NamedGraph. Condition: the argument's memory holds the graph. (gennmgs.py writes this text.) The walks of the given l9Named, l9RawNamedGraph and NamedGraph. Condition: the argument's memory holds the graph.
-/
import Derived.Test.YtdmaaneilfjfcaaDoorJFZ
import Derived.Test.YtdmaaneilfjfcaaDoorJD
import Derived.Test.YtdmaaneilfjfcaaDoorWImplItemsZ
import Derived.BigQuiet
import Derived.Test.YtdmaaneilfjfcaaDoorWRenS2Z
import Derived.Laws.Runes
namespace Go.Proofs.YtdmaaneilfjfcaaDoor
open Go Go.RowKit
def intVs (l : List Int) : List Value := l.map fun x => Value.int .i64 x
/-- What holds at the head of a round of l9Meant. -/
structure MntAt (w wr : World) (oa : Option Addr) (cap n : Nat) (vD tl vo : Value) (D all : List (Int × Int)) (os : List Int) : Prop where
  box : Row wr w.heap.size 25 [.slice oa n cap]
  dcl : wr.ownsRow w.heap.size 35 2 vD D.length (placeCells D)
  items : wr.ownsRow w.heap.size 35 2 tl all.length (placeCells all)
  out : wr.ownsRow w.heap.size 3 1 vo os.length (intVs os)
  below : Below w.heap.size w wr
theorem MntAt.step {w wr w' : World} {oa : Option Addr} {cap n : Nat} {vD tl vo : Value} {D all : List (Int × Int)} {os : List Int} (h : MntAt w wr oa cap n vD tl vo D all os) (hb : Below wr.heap.size wr w') : MntAt w w' oa cap n vD tl vo D all os where
  box := h.box.below hb h.box.lt
  dcl := ownsRow_below h.dcl hb
  items := ownsRow_below h.items hb
  out := ownsRow_below h.out hb
  below := h.below.trans (hb.mono h.below.size)
end Go.Proofs.YtdmaaneilfjfcaaDoor
namespace Go.Proofs.YtdmaaneilfjfcaaDoor
open Go Go.RowKit
theorem ext_one {names : ByteArray} {n : Nat} (h : n < names.size) : names.extract n (n + 1) = nmK names (n : Int) := by
  have h1 : n < names.data.toList.length := by rw [Array.length_toList]; exact h
  unfold nmK
  rw [if_neg (by omega), Int.toNat_natCast, List.getElem?_eq_getElem h1, Option.getD_some]
  apply bytes_of
  rw [ByteArray.data_extract, Array.toList_extract]
  refine List.ext_getElem? fun k => ?_
  cases k with
  | zero =>
    simp [List.extract]
  | succ k =>
    simp [List.extract]
    omega
/-- Blocks that were made between two worlds lie as they lay. -/
structure KeepAt (w4 w5 w : World) : Prop where
  size : w5.heap.size ≤ w.heap.size
  same : ∀ b, w4.heap.size ≤ b → b < w5.heap.size → w.heap[b]? = w5.heap[b]?
theorem KeepAt.refl (w4 w5 : World) : KeepAt w4 w5 w5 := ⟨Nat.le_refl _, fun _ _ _ => rfl⟩
theorem KeepAt.below {w4 w5 w w' : World} (h : KeepAt w4 w5 w) (hb : Below w.heap.size w w') : KeepAt w4 w5 w' :=
  ⟨Nat.le_trans h.size hb.size, fun b h1 h2 => (hb.block b (Nat.lt_of_lt_of_le h2 h.size)).trans (h.same b h1 h2)⟩
theorem KeepAt.set {w4 w5 w W : World} (h : KeepAt w4 w5 w) (hb : Below w.heap.size w W) {g n : Nat} (hg : g < w4.heap.size) {u : Value} : KeepAt w4 w5 (W.setCell ⟨g, n, none⟩ u) :=
  ⟨by have := (h.below hb).size; simpa using this, fun b h1 h2 => (Below.heap_setCell _ _ _ _ (by show b ≠ g; omega)).trans ((h.below hb).same b h1 h2)⟩
theorem KeepAt.args {w4 w5 w : World} (h : KeepAt w4 w5 w) {o : Option Addr} {l : List (Int × Int)} (ha : ArgPlaces w5 o l) (ho : ∀ b f, o = some ⟨b, f, none⟩ → w4.heap.size ≤ b) : ArgPlaces w o l := by
  rcases ha with ha | ⟨b, f, rfl, hb, hc⟩
  · exact .inl ha
  · refine .inr ⟨b, f, rfl, Nat.lt_of_lt_of_le hb h.size, fun i p hp => ?_⟩
    have h1 := hc i p hp
    have h2 := h.same b (ho b f rfl) hb
    exact ⟨(World.cell?_of_block (a := ⟨b, f + i * 2, none⟩) h2).trans h1.1, (World.cell?_of_block (a := ⟨b, f + i * 2 + 1, none⟩) h2).trans h1.2⟩
end Go.Proofs.YtdmaaneilfjfcaaDoor
namespace Go.Proofs.YtdmaaneilfjfcaaDoor
open Go Go.RowKit
theorem nmgOk.fair {ss : List Sc} (hF : Fair ss) {names : ByteArray} (h : nmgOk ss names) : Fair (nmgG ss names) := hF.ren fun i j _ x _ _ => h.size i j x.name
end Go.Proofs.YtdmaaneilfjfcaaDoor
