/-
  The walk of impl's GraphValid. Conditions: the argument's memory holds the graph; the package-level errors hold errors.
-/
import Derived.Test.YtifjljkbfabifaaDoorWTreeOf
import Derived.Test.YtifjljkbfabifaaDoorWEq
namespace Go.Proofs.YtifjljkbfabifaaDoor
open Go Go.RowKit
/-- Graphs that the laws call the program with. -/
structure Fair (ss : List Sc) : Prop where
  count : ss.length ≤ 1048576
  items : ∀ s ∈ ss, s.items.length ≤ 1048576
  fits : FitsScopes ss
  nums : I64Scopes ss
theorem Fair.tree {ss : List Sc} (h : Fair ss) (oa : Option Addr) (cap : Nat) (w : World) (hc : HoldsScopes w oa ss) (hE : TreeErrs w) :
    Calls Tryd.prog 71 #[.agg #[.slice oa ss.length cap]] w (TreeGot ss w) :=
  treeOf_any ss oa cap w h.count (fun s hs => h.items s hs) h.nums hc hE
theorem nItems_mem : ∀ {ss : List Sc} {s : Sc}, s ∈ ss → s.items.length ≤ wScopes ss
  | t :: r, s, h => by
    simp only [wScopes]
    rcases List.mem_cons.1 h with rfl | h
    · have := wItems_eq s.items; omega
    · have := nItems_mem h; omega
theorem Fair.of_weight {ss : List Sc} (hf : FitsScopes ss) (hI : I64Scopes ss) (h : wScopes ss ≤ 1048576) : Fair ss :=
  ⟨by have := wScopes_eq ss; omega, fun s hs => Nat.le_trans (nItems_mem hs) h, hf, hI⟩
set_option maxRecDepth 100000 in
theorem implValid_any (ss : List Sc) (hF : Fair ss) (oa : Option Addr) (cap : Nat) (w : World) (hc : HoldsScopes w oa ss) (hE : TreeErrs w) :
    Calls Tryd.prog 102 #[.agg #[.slice oa ss.length cap]] w fun e w' => ∃ b : Bool, e = .returned (.bool b) ∧ (b = true ↔ Valid ss) ∧ Below w.heap.size w w' := by
  have hb0 := (Below.refl w.heap.size w).alloc (Nat.le_refl _) (.cells #[.slice oa ss.length cap] 30)
  have C := Lib.hid (hF.tree oa cap _ (hc.below hb0 (Nat.le_refl _)) (hE.below hb0 hE.size))
  have HB0 := Lib.hid hb0
  clear hF hc hE hb0
  go_enter Tryd.func102, Tryd.ntmps102
  go_wp2_with fail
  refine C.out.mono ?_
  rintro e w1 (⟨hv, ⟨tp, p, rfl⟩, hb⟩ | ⟨hv, T, M1, M2, v, ds, rfl, hb, -⟩)
  · have HV := Lib.hid hv
    have HB := Lib.hid (HB0.out.trans (hb.mono HB0.out.size))
    clear hv hb
    go_wp2
    go_ret
    exact ⟨false, rfl, by simp [HV.out], HB.out⟩
  · have HV := Lib.hid hv
    have HB := Lib.hid (HB0.out.trans (hb.mono HB0.out.size))
    clear hv hb
    go_wp2
    go_ret
    exact ⟨true, rfl, by simp [HV.out], HB.out⟩
end Go.Proofs.YtifjljkbfabifaaDoor
