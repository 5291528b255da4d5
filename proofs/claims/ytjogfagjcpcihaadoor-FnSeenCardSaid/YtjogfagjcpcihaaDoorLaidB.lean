/-
  What a row's list of package-level variables gives a walk: each listed error holds an error value, the table of powers of ten is whole; and variables of type error read again behind a call that writes only new memory. Plain facts.
-/
import Derived.Test.YtjogfagjcpcihaaDoorRows
import Derived.Test.YtjogfagjcpcihaaDoorBase
import Derived.Stop.LaidErr
import Derived.MakeChecks
import Derived.LaidMore
import Derived.LaidLaws
import Derived.ProofKit
import Derived.OpenShut
import Derived.Deep.DeepHandedRow
import Derived.Deep.DeepWitnessRowRef
import Derived.SevenTiedAt
namespace Go.Proofs.YtjogfagjcpcihaaDoor
open Go Go.RowKit Go.ChangeShapes Go.WideShapes Go.ChangeAt
theorem own : ownKnob Tryd.prog.godebug = none := by kernel_rfl
theorem laidOut : laidOutB Tryd.prog = true := by kernel_rfl
theorem starName : "*" ++ "errors.errorString" = "*errors.errorString" := by decide
theorem rowErr (u : TypeId) (h : Tryd.prog.typeName? 3 u = some "*errors.errorString") : u = 237 :=
  typeName_ptr_named (nm := "errors.errorString") (by rw [starName]; kernel_rfl) (by kernel_rfl) (by decide) u (by rw [starName]; exact h)
theorem cellsErr : Tryd.prog.cellsOf 256 = 1 := by kernel_rfl
theorem cells9 : Tryd.prog.cellsOf 9 = 1 := by kernel_rfl
/-- A listed error, at the head of the list. -/
theorem sent {n : String} {text : List UInt8} {r : List (String × DataW Unit)} {W : World} {g : Nat}
    (h : laidMet Tryd.prog ((n, .iface "*errors.errorString" (.ptr (.agg [.lit (.string text)]))) :: r) W)
    (hg : Tryd.prog.globalNamed n = some g) (ht : (Tryd.prog.globals[g]?).map (·.type) = some 80) :
    ∃ a : Addr, W.var? Tryd.prog n = some #[.iface 237 (.pointer (some a))] := by
  obtain ⟨a, s, hv, _⟩ := laid_sentinel h hg ht Tryd.underlying80 rowErr Tryd.underlying237 Tryd.underlying256 rfl rfl Tryd.underlying9 cellsErr cells9
  exact ⟨a, hv⟩
theorem IsErr.of_var {n : String} {W : World} {g : Nat} {tp : TypeId} {p : Value} (hg : Tryd.prog.globalNamed n = some g) (h : W.var? Tryd.prog n = some #[.iface tp p]) : IsErr W g :=
  ⟨tp, p, by have := World.var?_cell hg h 0; simpa using this⟩
/-- One variable more of type error, read as a token. -/
theorem vars_cons {H : Type} (enc : TypeId × Value → H) {W : World} {n : String} {g : Nat} {x : Value} {ns : List String} {ds : List (DataW H)} {ps : List MemPlace} {sp : Nat → Bool}
    (hg : Tryd.prog.globalNamed n = some g) (ht : (Tryd.prog.globals[g]?).map (·.type) = some 80) (h : W.var? Tryd.prog n = some #[x]) (ix : IsIface x)
    (hr : DataW.TrodVars enc Tryd.prog W sp ns ds ps) : DataW.TrodVars enc Tryd.prog W sp (n :: ns) (tok enc x :: ds) (.cell g 0 :: ps) :=
  ⟨g, _, #[x], 1, [], ps, hg, ht, h, trod_held Tryd.underlying80 ix 0, hr, rfl⟩
theorem vars_nil {H : Type} (enc : TypeId × Value → H) {W : World} {sp : Nat → Bool} : DataW.TrodVars enc Tryd.prog W sp [] [] [] := rfl
theorem lastGlobal : (((begin Tryd.prog (fun _ _ => 0) default).world.heap[11 - 1]?).bind Obj.row?).isSome = true := by kernel_rfl
theorem countGlobals : Tryd.prog.globals.size = 11 := by kernel_rfl
/-- The package-level variables are there. -/
theorem size_of_shaped {W : World} (h : W.ShapedOpen Tryd.prog) : 11 ≤ W.heap.size := by
  obtain ⟨⟨z, t⟩, hz⟩ := Option.isSome_iff_exists.1 lastGlobal
  obtain ⟨cs, hh, _⟩ := h.1 (11 - 1) z t (by rw [countGlobals]; omega) hz
  have := (Array.getElem?_eq_some_iff.1 hh).1
  omega
end Go.Proofs.YtjogfagjcpcihaaDoor
