/-
  A block of memory known whole, and what stores, new blocks and draws leave of it. Plain facts about worlds.
-/
import Derived.WalkKit
import Derived.WalkSmall
namespace Go.Proofs.YtlhlcdlkilpbhaaDoor
open Go Go.RowKit
/-- Block g holds just the cells vs of type t, none of them frozen. -/
def Row (w : World) (g : Nat) (t : TypeId) (vs : List Value) : Prop := w.heap[g]? = some (.cells vs.toArray t (0, 0))
theorem Row.lt {w : World} {g : Nat} {t : TypeId} {vs : List Value} (h : Row w g t vs) : g < w.heap.size := (Array.getElem?_eq_some_iff.1 h).1
theorem Row.cell {w : World} {g : Nat} {t : TypeId} {vs : List Value} (h : Row w g t vs) {i : Nat} {v : Value} (hi : vs[i]? = some v) : w.cell? ⟨g, i, none⟩ = some v := by
  unfold Row at h
  simp [World.cell?, h, hi]
theorem Row.frozen {w : World} {g : Nat} {t : TypeId} {vs : List Value} (h : Row w g t vs) (i : Nat) : w.frozen? ⟨g, i, none⟩ = false := by
  unfold Row at h
  simp [World.frozen?, h]
theorem Row.set {w : World} {g : Nat} {t : TypeId} {vs : List Value} (h : Row w g t vs) (i : Nat) (v : Value) : Row (w.setCell ⟨g, i, none⟩ v) g t (vs.set i v) := by
  unfold Row at h ⊢
  simp [World.setCell, Array.getElem?_modify, h]
theorem Row.other {w : World} {g : Nat} {t : TypeId} {vs : List Value} (h : Row w g t vs) {a : Addr} (ha : a.block ≠ g) (v : Value) : Row (w.setCell a v) g t vs := by
  unfold Row at h ⊢
  rw [Below.heap_setCell _ _ _ _ (Ne.symm ha)]
  exact h
theorem Row.below {w w' : World} {B g : Nat} {t : TypeId} {vs : List Value} (h : Row w g t vs) (hb : Below B w w') (hg : g < B) : Row w' g t vs := by
  unfold Row at h ⊢
  rw [hb.block g hg]; exact h
theorem Row.alloc {w : World} {g : Nat} {t : TypeId} {vs : List Value} (h : Row w g t vs) (o : Obj) : Row (w.alloc o) g t vs :=
  h.below ((Below.refl w.heap.size w).alloc (Nat.le_refl _) o) h.lt
theorem Row.drew {w : World} {g : Nat} {t : TypeId} {vs : List Value} (h : Row w g t vs) : Row w.drew g t vs := h
theorem Row.new (w : World) (vs : List Value) (t : TypeId) : Row (w.alloc (.cells vs.toArray t)) w.heap.size t vs := by
  unfold Row
  rw [World.alloc, Array.getElem?_push]; simp
/-- A slice that was made whole. -/
theorem Row.of_owns {w : World} {g n cap size : Nat} {e : TypeId} {B : Nat} {vs : List Value} (h : w.ownsRow B e size (.slice (some ⟨g, 0, none⟩) n cap) n vs) (hc : cap = n) : Row w g e vs := by
  subst hc
  obtain ⟨hl, h | ⟨g', cap', cur, hv, _, hh, _, _, hs, ht⟩⟩ := h
  · exact absurd h.1 (by simp)
  · simp only [Value.slice.injEq, Option.some.injEq, Addr.mk.injEq, and_true] at hv
    obtain ⟨rfl, _, rfl⟩ := hv
    unfold Row
    rw [hh]
    have : cur.toList = vs := by rw [← ht, List.take_of_length_le]; rw [Array.length_toList]; omega
    rw [← this]
end Go.Proofs.YtlhlcdlkilpbhaaDoor
