/-
  What a world must hold of the package-level variables that reading and writing numbers uses, and that it still holds it where only new memory was written. Plain facts. What a row's list of package-level variables gives a walk that uses the table of powers of ten. Plain facts.
-/
import Derived.Test.YtjogfagjcpcihaaGreatDoorShelfX
import Derived.Test.YtjogfagjcpcihaaGreatDoorBaseX
import Derived.WalkKit
import Derived.WalkSmall
import Derived.Lib.LaidTab
import Derived.Lib.SmallJoins
import Derived.Test.YtjogfagjcpcihaaGreatDoorLaidBX
namespace Go.Proofs.YtjogfagjcpcihaaGreatDoor
open Go Go.RowKit
theorem gSyn : Tryz.prog.globalNamed "strconv.ErrSyntax" = some 12 := by kernel_rfl
theorem gTab : Tryz.prog.globalNamed "internal/strconv.uint64pow10" = some 14 := by kernel_rfl
/-- What writing numbers needs: the table of powers of ten. -/
structure TabGlobs (w : World) : Prop where
  size : 17 ≤ w.heap.size
  tab : Lib.TabIs Tryz.prog w "internal/strconv.uint64pow10" .u64 Lib.pow10Tab
/-- What reading numbers needs besides: the two errors. -/
structure NumGlobs (w : World) : Prop where
  tabs : TabGlobs w
  num : IsErr w 3
  syn : ∃ (tp : TypeId) (p : Value), w.var? Tryz.prog "strconv.ErrSyntax" = some #[.iface tp p]
theorem TabGlobs.below {w w' : World} {B : Nat} (h : TabGlobs w) (hb : Below B w w') (hB : 17 ≤ B) : TabGlobs w' where
  size := Nat.le_trans h.size hb.size
  tab := var?_below hb gTab (by omega) h.tab
theorem NumGlobs.below {w w' : World} {B : Nat} (h : NumGlobs w) (hb : Below B w w') (hB : 17 ≤ B) : NumGlobs w' where
  tabs := h.tabs.below hb hB
  num := h.num.below hb (by omega)
  syn := by obtain ⟨tp, p, hs⟩ := h.syn; exact ⟨tp, p, var?_below hb gSyn (by omega) hs⟩
end Go.Proofs.YtjogfagjcpcihaaGreatDoor
namespace Go.Proofs.YtjogfagjcpcihaaGreatDoor
open Go Go.RowKit Go.ChangeShapes Go.WideShapes Go.ChangeAt
theorem tabData_eq : (Rows.laid_internal_strconv_uint64pow10 : DataW Unit) = Lib.tabData .u64 Lib.pow10Tab := by kernel_rfl
theorem gTabType : (Tryz.prog.globals[14]?).map (·.type) = some 248 := by kernel_rfl
theorem tab_of {r : List (String × DataW Unit)} {W : World} (h : laidMet Tryz.prog (("internal/strconv.uint64pow10", Rows.laid_internal_strconv_uint64pow10) :: r) W) :
    Lib.TabIs Tryz.prog W "internal/strconv.uint64pow10" .u64 Lib.pow10Tab := by
  rw [tabData_eq] at h
  exact Lib.tabIs_of_head gTab gTabType Tryz.underlying248 Tryz.underlying227 (by kernel_rfl) (by kernel_rfl) h
end Go.Proofs.YtjogfagjcpcihaaGreatDoor
