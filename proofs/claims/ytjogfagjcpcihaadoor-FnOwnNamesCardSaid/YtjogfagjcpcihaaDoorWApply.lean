/-
  The walk of impl's (renaming).apply: all items of a graph in a box get their names. Conditions: the function value renames as told; the box holds a graph of the call's own.
-/
import Derived.Test.YtjogfagjcpcihaaDoorJD
import Derived.Test.YtjogfagjcpcihaaDoorWRenF
import Derived.Test.YtjogfagjcpcihaaDoorWPut
namespace Go.Proofs.YtjogfagjcpcihaaDoor
open Go Go.RowKit
theorem GrIn.par {w : World} {B g gs cs : Nat} {us : List Sc} {hs : List Value} (h : GrIn w B g gs cs us hs) {i : Nat} {s : Sc} (hs' : us[i]? = some s) : w.cell? ⟨gs, i * 2, none⟩ = some (.int .i64 s.parent) := by
  obtain ⟨u, hu⟩ : ∃ u, hs[i]? = some u := ⟨_, List.getElem?_eq_getElem (by rw [h.own.len]; exact (List.getElem?_eq_some_iff.1 hs').1)⟩
  have h3 := h.own.row.cells (g := gs) rfl _ _ (scRow_at hs' hu).1
  rw [Addr.add_lit, Nat.zero_add] at h3
  exact h3
end Go.Proofs.YtjogfagjcpcihaaDoor
