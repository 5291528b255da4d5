/-
  What the walks of the exact laws over graphs share: the copies of a graph, their comparison, errors carried along. Plain facts.
-/
import Derived.Test.YtoijapbffhkbbaaDoorWImplValid
import Derived.Test.YtoijapbffhkbbaaDoorWEq
import Derived.Deep.RegionWith
namespace Go.Proofs.YtoijapbffhkbbaaDoor
open Go Go.RowKit
/-- The copy of a graph, as the laws make it. -/
theorem toGraph_holds {ss : List Sc} (hF : Fair ss) {w0 : World} (oa : Option Addr) (cap : Nat) (hc : HoldsScopes w0 oa ss) {w : World} (hb : Below w0.heap.size w0 w) :
    Calls Tryd.prog 17 #[.agg #[.slice oa ss.length cap]] w fun e w' => ∃ g, e = .returned (.agg #[.slice (some ⟨g, 0, none⟩) ss.length ss.length]) ∧ HoldsScopes w' (some ⟨g, 0, none⟩) ss ∧ Below w.heap.size w w' :=
  (toGraph_any ss oa cap w hF.count hF.items (hc.below hb (Nat.le_refl _))).mono fun _ _ ⟨g, _, h1, _, _, h4, h5, h6⟩ => ⟨g, h1, h5.holds h4, h6⟩
theorem eqGraph_fair {ss : List Sc} (hF : Fair ss) {w1 w2 : World} {o1 o2 : Option Addr} {c1 c2 : Nat} {w : World} (h1 : HoldsScopes w1 o1 ss) (h2 : HoldsScopes w2 o2 ss) (hb1 : Below w1.heap.size w1 w) (hb2 : Below w2.heap.size w2 w) :
    Calls Tryd.prog 19 #[.agg #[.slice o1 ss.length c1], .agg #[.slice o2 ss.length c2]] w fun e w' => e = .returned (.bool true) ∧ Below w.heap.size w w' :=
  eqGraph_same ss o1 o2 c1 c2 w (by have := hF.count; omega) (fun s hs => by have := hF.items s hs; omega) (h1.below hb1 (Nat.le_refl _)) (h2.below hb2 (Nat.le_refl _))
theorem TreeErrs.at {w w' : World} (h : TreeErrs w) (hb : Below w.heap.size w w') : TreeErrs w' := h.below hb h.size
theorem belowS {w w1 w2 : World} (h : Below w.heap.size w w1) (k : Below w1.heap.size w1 w2) : Below w.heap.size w w2 := h.trans (k.mono h.size)
end Go.Proofs.YtoijapbffhkbbaaDoor
