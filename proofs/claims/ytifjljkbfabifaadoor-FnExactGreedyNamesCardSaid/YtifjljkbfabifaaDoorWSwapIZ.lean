/-
  The walk of impl's SwapNames. Conditions: the argument's memory holds the graph; the package-level errors hold errors.
-/
import Derived.Test.YtifjljkbfabifaaDoorWApplyZ
import Derived.Test.YtifjljkbfabifaaDoorWRemItemZ
namespace Go.Proofs.YtifjljkbfabifaaDoor
open Go Go.RowKit
/-- The edit that a renaming is. -/
theorem edit_on {w : World} {u : Value} {f : NameF} {us : List Sc} (h : RenOn us w u f) (hn : us.length ≤ 900) (hn2 : ∀ s ∈ us, s.items.length ≤ 900) : EditOk w (.func (.func 170) #[u] #[]) us (renP us f) :=
  ⟨_, #[u], #[], rfl, .inr ⟨u, rfl⟩, enters_of Tryd.func170 (by kernel_rfl) rfl, fun W B g gs cs hs hb hB hB2 hG => apply_any us hs hn hn2 B g gs cs W h hb hB hB2 hG⟩
/-- A copy of a graph to which one edit has been made. -/
theorem with_one (ss tt : List Sc) (hF : Fair ss) (h1 : 1 ≤ ss.length) (oa : Option Addr) (cap : Nat) (u : Value) (w : World) (hc : HoldsScopes w oa ss) (hE : EditOk w u ss tt) :
    Calls Tryd.prog 168 #[.agg #[.slice oa ss.length cap], .slice (some ⟨w.heap.size, 0, none⟩) 1 1] (w.alloc (.cells #[u] 246)) fun e w' => ∃ v hs, e = .returned (.agg #[v]) ∧ OwnGr w' w.heap.size v tt hs ∧ Below w.heap.size w w' := by
  have hb := (Below.refl w.heap.size w).alloc (Nat.le_refl _) (.cells #[u] 246)
  have RF := Row.new w [u] 246
  refine (with_any ss tt hF h1 oa (some ⟨w.heap.size, 0, none⟩) cap 1 [u] (by simp) _ (hc.below hb (Nat.le_refl _)) (.inr ⟨_, 0, rfl, RF.lt, fun k z hz => by rw [Nat.zero_add]; exact RF.cell hz⟩) (.cons ?_ (.nil _))).mono ?_
  · obtain ⟨f, pb, lb, h1, h2, h3, h4⟩ := hE
    exact ⟨f, pb, lb, h1, h2, h3, fun W B g gs cs hs hW hB hB2 hG => h4 W B g gs cs hs (hb.trans (hW.mono hb.size)) (Nat.le_trans hb.size hB) hB2 hG⟩
  · rintro e w' ⟨v, hs, rfl, hO, hb'⟩
    exact ⟨v, hs, rfl, hO.lower hb.size, hb.trans (hb'.mono hb.size)⟩
end Go.Proofs.YtifjljkbfabifaaDoor
