/-
  What a row's list of package-level variables gives a walk: each listed error holds an error value, the table of powers of ten is whole; and variables of type error read again behind a call that writes only new memory. Plain facts.
-/
import Derived.Test.YtgehpaojbnpbcaaGreatDoorRows
import Derived.Test.YtgehpaojbnpbcaaGreatDoorBaseZ
import Derived.Stop.LaidErr
import Derived.MakeChecks
import Derived.LaidMore
import Derived.LaidLaws
import Derived.ProofKit
import Derived.OpenShut
import Derived.Deep.DeepHandedRow
import Derived.Deep.DeepWitnessRowRef
import Derived.SevenTiedAt
namespace Go.Proofs.YtgehpaojbnpbcaaGreatDoor
open Go Go.RowKit Go.ChangeShapes Go.WideShapes Go.ChangeAt
theorem own : ownKnob Tryz.prog.godebug = none := by kernel_rfl
theorem laidOut : laidOutB Tryz.prog = true := by kernel_rfl
theorem starName : "*" ++ "errors.errorString" = "*errors.errorString" := by decide
theorem rowErr (u : TypeId) (h : Tryz.prog.typeName? 3 u = some "*errors.errorString") : u = 220 :=
  typeName_ptr_named (nm := "errors.errorString") (by rw [starName]; kernel_rfl) (by kernel_rfl) (by decide) u (by rw [starName]; exact h)
theorem cellsErr : Tryz.prog.cellsOf 237 = 1 := by kernel_rfl
theorem cells9 : Tryz.prog.cellsOf 9 = 1 := by kernel_rfl
/-- A listed error, at the head of the list. -/
theorem sent {n : String} {text : List UInt8} {r : List (String × DataW Unit)} {W : World} {g : Nat}
    (h : laidMet Tryz.prog ((n, .iface "*errors.errorString" (.ptr (.agg [.lit (.string text)]))) :: r) W)
    (hg : Tryz.prog.globalNamed n = some g) (ht : (Tryz.prog.globals[g]?).map (·.type) = some 71) :
    ∃ a : Addr, W.var? Tryz.prog n = some #[.iface 220 (.pointer (some a))] := by
  obtain ⟨a, s, hv, _⟩ := laid_sentinel h hg ht Tryz.underlying71 rowErr Tryz.underlying220 Tryz.underlying237 rfl rfl Tryz.underlying9 cellsErr cells9
  exact ⟨a, hv⟩
theorem IsErr.of_var {n : String} {W : World} {g : Nat} {tp : TypeId} {p : Value} (hg : Tryz.prog.globalNamed n = some g) (h : W.var? Tryz.prog n = some #[.iface tp p]) : IsErr W g :=
  ⟨tp, p, by have := World.var?_cell hg h 0; simpa using this⟩
/-- One variable more of type error, read as a token. -/
theorem vars_cons {H : Type} (enc : TypeId × Value → H) {W : World} {n : String} {g : Nat} {x : Value} {ns : List String} {ds : List (DataW H)} {ps : List MemPlace} {sp : Nat → Bool}
    (hg : Tryz.prog.globalNamed n = some g) (ht : (Tryz.prog.globals[g]?).map (·.type) = some 71) (h : W.var? Tryz.prog n = some #[x]) (ix : IsIface x)
    (hr : DataW.TrodVars enc Tryz.prog W sp ns ds ps) : DataW.TrodVars enc Tryz.prog W sp (n :: ns) (tok enc x :: ds) (.cell g 0 :: ps) :=
  ⟨g, _, #[x], 1, [], ps, hg, ht, h, trod_held Tryz.underlying71 ix 0, hr, rfl⟩
theorem vars_nil {H : Type} (enc : TypeId × Value → H) {W : World} {sp : Nat → Bool} : DataW.TrodVars enc Tryz.prog W sp [] [] [] := rfl
theorem lastGlobal : (((begin Tryz.prog (fun _ _ => 0) default).world.heap[8 - 1]?).bind Obj.row?).isSome = true := by kernel_rfl
theorem countGlobals : Tryz.prog.globals.size = 8 := by kernel_rfl
/-- The package-level variables are there. -/
theorem size_of_shaped {W : World} (h : W.ShapedOpen Tryz.prog) : 8 ≤ W.heap.size := by
  obtain ⟨⟨z, t⟩, hz⟩ := Option.isSome_iff_exists.1 lastGlobal
  obtain ⟨cs, hh, _⟩ := h.1 (8 - 1) z t (by rw [countGlobals]; omega) hz
  have := (Array.getElem?_eq_some_iff.1 hh).1
  omega
end Go.Proofs.YtgehpaojbnpbcaaGreatDoor
