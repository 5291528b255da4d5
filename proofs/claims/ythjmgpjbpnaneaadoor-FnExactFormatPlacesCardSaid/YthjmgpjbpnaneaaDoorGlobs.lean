/-
  What a world must hold of the package-level variables that reading and writing numbers uses, and that it still holds it where only new memory was written. Plain facts.
-/
import Derived.Test.YthjmgpjbpnaneaaDoorShelf
import Derived.WalkKit
import Derived.WalkSmall
import Derived.Lib.LaidTab
import Derived.Lib.SmallJoins
namespace Go.Proofs.YthjmgpjbpnaneaaDoor
open Go Go.RowKit
theorem below_grow (w : World) (q : Nat) (os : Array Obj) : Below w.heap.size w (Sort.grow (w.drewN q) os) :=
  ⟨rfl, rfl, rfl, by show w.heap.size ≤ (w.heap ++ os).size; simp, fun i hi => by
    show (w.heap ++ os)[i]? = _
    rw [Array.getElem?_append_left hi]⟩
/-- A package-level variable of type error holds an error that isn't nil. -/
def IsErr (w : World) (g : Nat) : Prop := ∃ (tp : TypeId) (p : Value), w.cell? ⟨g, 0, none⟩ = some (.iface tp p)
theorem IsErr.below {w w' : World} {g B : Nat} (h : IsErr w g) (hb : Below B w w') (hB : g < B) : IsErr w' g := by
  obtain ⟨tp, p, h⟩ := h
  exact ⟨tp, p, (hb.cell (p := ⟨g, 0, none⟩) hB).trans h⟩
theorem gSyn : Tryd.prog.globalNamed "strconv.ErrSyntax" = some 8 := by kernel_rfl
theorem gTab : Tryd.prog.globalNamed "internal/strconv.uint64pow10" = some 7 := by kernel_rfl
/-- What writing numbers needs: the table of powers of ten. -/
structure TabGlobs (w : World) : Prop where
  size : 12 ≤ w.heap.size
  tab : Lib.TabIs Tryd.prog w "internal/strconv.uint64pow10" .u64 Lib.pow10Tab
/-- What reading numbers needs besides: the two errors. -/
structure NumGlobs (w : World) : Prop where
  tabs : TabGlobs w
  num : IsErr w 5
  syn : ∃ (tp : TypeId) (p : Value), w.var? Tryd.prog "strconv.ErrSyntax" = some #[.iface tp p]
theorem TabGlobs.below {w w' : World} {B : Nat} (h : TabGlobs w) (hb : Below B w w') (hB : 12 ≤ B) : TabGlobs w' where
  size := Nat.le_trans h.size hb.size
  tab := var?_below hb gTab (by omega) h.tab
theorem NumGlobs.below {w w' : World} {B : Nat} (h : NumGlobs w) (hb : Below B w w') (hB : 12 ≤ B) : NumGlobs w' where
  tabs := h.tabs.below hb hB
  num := h.num.below hb (by omega)
  syn := by obtain ⟨tp, p, hs⟩ := h.syn; exact ⟨tp, p, var?_below hb gSyn (by omega) hs⟩
end Go.Proofs.YthjmgpjbpnaneaaDoor
