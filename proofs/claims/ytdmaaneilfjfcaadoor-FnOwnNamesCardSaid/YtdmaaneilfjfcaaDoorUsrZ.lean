/-
  Who uses a declaration, as plain data; a map of users in memory, told by what look-ups answer. Plain facts.
-/
import Derived.Test.YtdmaaneilfjfcaaDoorJEZ
import Derived.Test.YtdmaaneilfjfcaaDoorWSpecItemsZ
import Derived.Test.YtdmaaneilfjfcaaDoorMapEntZ
import Derived.RangeFuncWrites
namespace Go.Proofs.YtdmaaneilfjfcaaDoor
open Go Go.RowKit Go.Maps
theorem plLit_is (a b : Int) : WideAt.IsKeyLit (plLit a b) := trivial
/-- The items but declarations that mean a place alone. -/
def aloneB (ss : List Sc) (d : Int × Int) (q : Nat × Nat × It) : Bool := decide (q.2.2.kind ≠ 1) && decide (meanIt ss q = [d])
def usersP (ss : List Sc) (d : Int × Int) : List (Int × Int) := filtL (aloneB ss d) (placed 0 ss)
theorem cells_of_grown' {w w' : World} {M n : Nat} {D : DataW Unit} (hg : w.grownBy w' (some M)) (h : w.ownsMap Tryd.prog 35 sliceR M n D) : CellsKept w.heap.size w w' :=
  ⟨hg.size, fun g vs t fr _ hh => by
    refine (hg.block g (Array.getElem?_eq_some_iff.1 hh).1 (fun e => ?_)).trans hh
    cases e
    obtain ⟨es, clock, h1, _⟩ := h
    rw [h1] at hh; cases hh⟩
/-- Is a declaration at a place? -/
def declOk (ss : List Sc) (a b : Int) : Prop := Valid ss ∧ ∃ x, itemAtP ss a b = some x ∧ x.kind = 1
/-- What is told of the rows of a map of users. -/
structure UsrG (w : World) (B : Nat) (A : List Nat) (dl : List (Int × Int)) (f : Int × Int → List (Int × Int)) (D : DataW Unit) (g : Int × Int → Value) : Prop where
  has : ∀ a b, (Lit.int .i64 a).wf = true → (Lit.int .i64 b).wf = true → (Maps.has D (plLit a b) = true ↔ (a, b) ∈ dl)
  look : ∀ a b, (a, b) ∈ dl → ∀ z, D.atKey (plLit a b) z = sliceD (g (a, b))
  rows : ∀ p ∈ dl, w.ownsRow B 35 2 (g p) (f p).length (placeCells (f p))
  apart : ∀ p ∈ dl, ∀ q ∈ dl, p ≠ q → (g p).ownBlock = none ∨ (g p).ownBlock ≠ (g q).ownBlock
  far : ∀ p ∈ dl, ∀ b ∈ A, (g p).ownBlock ≠ some b
  small : ∀ p ∈ dl, (Lit.int .i64 p.1).wf = true ∧ (Lit.int .i64 p.2).wf = true
def UsrW (w : World) (B MU n : Nat) (A : List Nat) (dl : List (Int × Int)) (f : Int × Int → List (Int × Int)) : Prop :=
  ∃ (D : DataW Unit) (g : Int × Int → Value), w.ownsMap Tryd.prog 35 sliceR MU n D ∧ IsMap D ∧ UsrG w B A dl f D g
theorem UsrW.lt {w : World} {B MU n : Nat} {A : List Nat} {dl : List (Int × Int)} {f : Int × Int → List (Int × Int)} (h : UsrW w B MU n A dl f) : MU < w.heap.size := by
  obtain ⟨D, g, ⟨es, clock, hh, _⟩, _⟩ := h
  exact (Array.getElem?_eq_some_iff.1 hh).1
theorem UsrW.kept {w w' : World} {B MU n : Nat} {A : List Nat} {dl : List (Int × Int)} {f : Int × Int → List (Int × Int)} (h : UsrW w B MU n A dl f) (hk : CellsKept w.heap.size w w') (hs : w'.heap[MU]? = w.heap[MU]?) : UsrW w' B MU n A dl f := by
  obtain ⟨D, g, h1, h2, h3⟩ := h
  exact ⟨D, g, ownsMap_same h1 hs, h2, h3.has, h3.look, fun p hp => ownsRow_cells (h3.rows p hp) hk, h3.apart, h3.far, h3.small⟩
theorem UsrW.below {w w' : World} {B MU n : Nat} {A : List Nat} {dl : List (Int × Int)} {f : Int × Int → List (Int × Int)} (h : UsrW w B MU n A dl f) (hb : Below w.heap.size w w') : UsrW w' B MU n A dl f :=
  h.kept (.of_below hb) (hb.block _ h.lt)
theorem UsrW.mono {w : World} {B MU n m : Nat} {A : List Nat} {dl : List (Int × Int)} {f : Int × Int → List (Int × Int)} (h : UsrW w B MU n A dl f) (hn : n ≤ m) : UsrW w B MU m A dl f := by
  obtain ⟨D, g, ⟨es, clock, hh, F, hs, r⟩, h2, h3⟩ := h
  exact ⟨D, g, ⟨es, clock, hh, F, Nat.le_trans hs hn, r⟩, h2, h3⟩
theorem UsrW.same {w : World} {B MU n : Nat} {A : List Nat} {dl : List (Int × Int)} {f f' : Int × Int → List (Int × Int)} (h : UsrW w B MU n A dl f) (hf : ∀ p ∈ dl, f p = f' p) : UsrW w B MU n A dl f' := by
  obtain ⟨D, g, h1, h2, h3⟩ := h
  exact ⟨D, g, h1, h2, h3.has, h3.look, fun p hp => by rw [← hf p hp]; exact h3.rows p hp, h3.apart, h3.far, h3.small⟩
end Go.Proofs.YtdmaaneilfjfcaaDoor
