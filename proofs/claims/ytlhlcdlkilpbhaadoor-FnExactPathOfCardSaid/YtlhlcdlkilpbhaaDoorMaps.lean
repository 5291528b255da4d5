/-
  Maps keyed by places and by scopes: what their keys read as. Plain facts.
-/
import Derived.Test.YtlhlcdlkilpbhaaDoorTree
import Derived.Test.YtlhlcdlkilpbhaaDoorBase
import Derived.Maps.OwnSet
import Derived.Maps.OwnIn
import Derived.Maps.Views
import Derived.DeepKeys4
namespace Go.Proofs.YtlhlcdlkilpbhaaDoor
open Go Go.RowKit Go.Maps
theorem placeWide : (match Tryd.prog.underlying 36 with | some (.array _ _) | some (.struct _) => true | _ => false) = true := by kernel_rfl
theorem placeRow : (36 : TypeId) < Tryd.prog.types.size := of_decide_eq_true (by kernel_rfl)
theorem laidOutM : laidOutB Tryd.prog = true := by kernel_rfl
theorem placeAt : Tryd.prog.keyTypeAt 2 36 = true := by kernel_rfl
set_option maxRecDepth 100000 in
theorem placeLaw : Keyed Tryd.prog 36 := Keyed.of_law (deep_law_laid laidOutM (m := 2) (by omega) placeRow placeAt placeWide)
theorem scopeLaw : Keyed Tryd.prog 3 := int_keyed Tryd.underlying3
/-- What a place reads as, as a key. -/
def plLit (a b : Int) : Lit := .string (keyBytes [.int .i64 a, .int .i64 b])
theorem placeType : Tryd.prog.keyType 36 = true := by kernel_rfl
theorem placeCellsM : Tryd.prog.cellsOf 36 = 2 := by kernel_rfl
theorem intCells : Tryd.prog.cellsOf 3 = 1 := by kernel_rfl
theorem typesPos : ∃ m, Tryd.prog.types.size + 1 = m + 2 := by
  have := placeRow
  cases h : Tryd.prog.types.size with
  | zero => rw [h] at this; exact absurd this (Nat.not_lt_zero _)
  | succ m => exact ⟨m, rfl⟩
theorem pl_key {a b : Int} (ha : (Lit.int .i64 a).wf = true) (hb : (Lit.int .i64 b).wf = true) : keyOf Tryd.prog 36 (.agg #[.int .i64 a, .int .i64 b]) = some (plLit a b) := by
  obtain ⟨m, hm⟩ := typesPos
  have hf : (Value.agg #[.int .i64 a, .int .i64 b]).formed Tryd.prog 36 = true := by simp [Value.formed, Tryd.underlying36, placeCellsM]
  unfold keyOf
  rw [Tryd.underlying36]
  simp only [placeType, hf, Bool.and_self, if_true, hm]
  simp [Program.keyLits, Tryd.underlying36, placeCellsM, intCells, Tryd.underlying3, ha, hb, Value.cells, plLit]
theorem plLit_inj {a b c d : Int} (ha : (Lit.int .i64 a).wf = true) (hb : (Lit.int .i64 b).wf = true) (hc : (Lit.int .i64 c).wf = true) (hd : (Lit.int .i64 d).wf = true) (h : plLit a b = plLit c d) : a = c ∧ b = d := by
  have h1 := pl_key ha hb
  have h2 := pl_key hc hd
  rw [h] at h1
  have := placeLaw.inj h1 h2
  simpa using this
end Go.Proofs.YtlhlcdlkilpbhaaDoor
