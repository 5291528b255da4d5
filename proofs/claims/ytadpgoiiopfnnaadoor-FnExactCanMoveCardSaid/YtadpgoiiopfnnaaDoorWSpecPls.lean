/-
  The walks of the given l1Places and PlacesOf. Condition: the argument's memory holds the graph.
-/
import Derived.Test.YtadpgoiiopfnnaaDoorWMarksP
namespace Go.Proofs.YtadpgoiiopfnnaaDoor
open Go Go.RowKit
/-- The places of a kind among some items, in order. -/
def plsOf (kind : Int) (l : List (Nat × Nat × It)) : List (Int × Int) := (l.filter fun q => q.2.2.kind == kind).map fun q => ((q.1 : Int), (q.2.1 : Int))
theorem plsOf_snoc (kind : Int) (l : List (Nat × Nat × It)) (q : Nat × Nat × It) : plsOf kind (l ++ [q]) = plsOf kind l ++ if q.2.2.kind = kind then [((q.1 : Int), (q.2.1 : Int))] else [] := by
  unfold plsOf
  rw [List.filter_append, List.map_append]
  congr 1
  by_cases h : q.2.2.kind = kind
  · rw [if_pos h]; simp [h]
  · rw [if_neg h]; simp [h]
theorem plsOf_length (kind : Int) (l : List (Nat × Nat × It)) : (plsOf kind l).length ≤ l.length := by
  unfold plsOf
  rw [List.length_map]
  exact List.length_filter_le _ _
/-- The places of a kind. -/
def plsP (ss : List Sc) (kind : Int) : List (Int × Int) := plsOf kind (placed 0 ss)
theorem placed_bound : ∀ (i : Nat) (ss : List Sc) (n m : Nat), ss.length ≤ n → (∀ s ∈ ss, s.items.length ≤ m) → (placed i ss).length ≤ n * m
  | _, [], n, m, _, _ => by simp [placed]
  | i, s :: r, n, m, hn, hm => by
    obtain ⟨n', rfl⟩ : ∃ n', n = n' + 1 := ⟨n - 1, by simp at hn; omega⟩
    have ih := placed_bound (i + 1) r n' m (by simp at hn; omega) (fun s hs => hm s (List.mem_cons_of_mem _ hs))
    have h1 := hm s List.mem_cons_self
    simp only [placed, List.length_append, List.length_map, List.length_zipIdx]
    rw [Nat.add_mul, Nat.one_mul]
    omega
theorem uptoP_bound {ss : List Sc} {k j n m : Nat} (hn : ss.length ≤ n) (hm : ∀ s ∈ ss, s.items.length ≤ m) {s : Sc} (hs : ss[k]? = some s) : (uptoP ss k j).length ≤ n * m :=
  Nat.le_trans (uptoP_prefix (j := j) hs).length_le (placed_bound 0 ss n m hn hm)
theorem uptoP_bound0 {ss : List Sc} {k n m : Nat} (hn : ss.length ≤ n) (hm : ∀ s ∈ ss, s.items.length ≤ m) (hk : k ≤ ss.length) : (uptoP ss k 0).length ≤ n * m := by
  by_cases h : k < ss.length
  · exact uptoP_bound hn hm (List.getElem?_eq_getElem h)
  · obtain rfl : k = ss.length := by omega
    rw [uptoP_all]; exact placed_bound 0 ss n m hn hm
theorem ownsRow_ne2 {w : World} {g base n size : Nat} {t e : TypeId} {vs xs : List Value} {v : Value} (hr : Row w g t vs) (ht : t ≠ e) (h : w.ownsRow base e size v n xs) : some g ≠ v.ownBlock := ownsRow_ne hr ht h
/-- What holds at the head of a round of either loop. -/
structure PlsAt (w wr : World) (oa : Option Addr) (cap n : Nat) (v : Value) (l : List (Int × Int)) : Prop where
  box : Row wr w.heap.size 30 [.slice oa n cap]
  row : wr.ownsRow w.heap.size 34 2 v l.length (placeCells l)
  below : Below w.heap.size w wr
theorem PlsAt.step {w wr w' : World} {oa : Option Addr} {cap n : Nat} {v : Value} {l : List (Int × Int)} (h : PlsAt w wr oa cap n v l) (hb : Below wr.heap.size wr w') : PlsAt w w' oa cap n v l where
  box := h.box.below hb h.box.lt
  row := ownsRow_below h.row hb
  below := h.below.trans (hb.mono h.below.size)
/-- Is a kind one of the three? -/
theorem kind_in (kind : Int) : inB kind 1 3 = true ↔ 1 ≤ kind ∧ kind ≤ 3 := by simp [inB]
/-- What PlacesOf answers. -/
def kindOk (ss : List Sc) (kind : Int) : Prop := Valid ss ∧ inB kind 1 3 = true
theorem Valid.five {ss : List Sc} (h : Valid ss) : ∀ s ∈ ss, s.items.length ≤ 5 := fun s hs => by
  obtain ⟨i, hi⟩ := List.mem_iff_getElem?.1 hs
  exact scope_items (h.scopes i s hi)
end Go.Proofs.YtadpgoiiopfnnaaDoor
