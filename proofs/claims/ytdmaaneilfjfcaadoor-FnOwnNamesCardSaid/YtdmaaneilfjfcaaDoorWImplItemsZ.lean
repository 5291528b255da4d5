/-
  The walks of impl's ItemsIn and IsSound. Conditions: the argument's memory holds the graph; the package-level errors hold errors.
-/
import Derived.Test.YtdmaaneilfjfcaaDoorJEZ
namespace Go.Proofs.YtdmaaneilfjfcaaDoor
open Go Go.RowKit Go.Maps
attribute [local go_sem] Oper.semAt_some
/-- What IsSound answers. -/
def SoundVal (ss : List Sc) (b : Bool) : Prop := b = true ↔ Valid ss ∧ ∀ q ∈ placed 0 ss, stateIt ss q = 1
theorem SoundVal.same {ss : List Sc} {a b : Bool} (h : SoundVal ss a) (k : SoundVal ss b) : a = b := Bool.eq_iff_iff.2 (h.trans k.symm)
end Go.Proofs.YtdmaaneilfjfcaaDoor
