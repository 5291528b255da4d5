/-
  NARROWER THAN 'FOR EVERY INPUT', by the rows' own cells (each row's printed sentence says how): FnExactLookUpWay: ifaces, laid.
  DERIVED. THE GIVEN ROWS OF THIS SEAT. 1 by the template 'for every input the law returns true; each argument reads behind the call as it read before'; 0 by the template 'total and deterministic' (their statements: YtcgdligjbkjkcaaDoorTotals.lean).
  GIVEN WITH THE SEED: the statements are not yours to turn. If you find one false, say at which input.
  Laid BY PROGRAM, IN A SANDBOX (cutbox-rows.mjs): the forced cells as the released guide's own fill.sh prints them over the translation c524516866f45b5b… (all of the seat's roots in one cut). By AI agents, Wed Nov 11 2026. No macro, syntax, notation, axiom, sorry.
-/
import Derived.Test.YtcgdligjbkjkcaaDoorChecked
import GoSem.Claim
import GoSem.ClaimJoined
import GoSem.ClaimMapViews
import Derived.JoinedTies
import Derived.KernelRfl
namespace Go.Proofs.YtcgdligjbkjkcaaDoor
/- THE CELL 'sum', in the pinned program and in every row, IS THE sha256 OF THE DUMP (.gsa) THAT YtcgdligjbkjkcaaDoorProg.lean LOADS. Nothing in Lean hashes anything: it is a label: what it is worth is what the hold of that sum in a sandbox is worth. -/
noncomputable def Tryd.pinned : Pinned := { name := "ytcgdligjbkjkcaadoor", sum := "c524516866f45b5b9dc8e601cffdaa1c51d7b7dd66a1dc48338af9337773ea5b", checked := Tryd.checked }
namespace Rows
def none {H : Type} : Left H := { results := [], args := [] }

/- WHAT THE LISTED PACKAGE-LEVEL VARIABLES READ AS WHEN THE CALL BEGINS. Each datum BY PROGRAM (the guide's laid-datum.mjs) off the statement by which the dump's own 'gosem.cut.vars' lays the variable. In a bare row this is a premise. The card (YtcgdligjbkjkcaaDoorCards.lean) ties it to the program's text. -/
def laid_loop_example_scopegraphs_impl_errScopes {H : Type} : DataW H := .iface "*errors.errorString" (.ptr (.agg [.lit (.string [97, 32, 103, 114, 97, 112, 104, 32, 104, 97, 115, 32, 49, 32, 116, 111, 32, 77, 97, 120, 83, 99, 111, 112, 101, 115, 32, 115, 99, 111, 112, 101, 115])]))
def laid_loop_example_scopegraphs_impl_errParent {H : Type} : DataW H := .iface "*errors.errorString" (.ptr (.agg [.lit (.string [116, 104, 101, 32, 102, 105, 114, 115, 116, 32, 115, 99, 111, 112, 101, 32, 104, 97, 115, 32, 110, 111, 32, 112, 97, 114, 101, 110, 116, 44, 32, 97, 110, 100, 32, 101, 97, 99, 104, 32, 111, 116, 104, 101, 114, 32, 111, 110, 101, 32, 97, 110, 32, 101, 97, 114, 108, 105, 101, 114, 32, 115, 99, 111, 112, 101])]))
def laid_loop_example_scopegraphs_impl_errItems {H : Type} : DataW H := .iface "*errors.errorString" (.ptr (.agg [.lit (.string [97, 32, 115, 99, 111, 112, 101, 32, 104, 97, 115, 32, 97, 116, 32, 109, 111, 115, 116, 32, 77, 97, 120, 73, 116, 101, 109, 115, 32, 105, 116, 101, 109, 115])]))
def laid_loop_example_scopegraphs_impl_errItem {H : Type} : DataW H := .iface "*errors.errorString" (.ptr (.agg [.lit (.string [97, 110, 32, 105, 116, 101, 109, 32, 104, 97, 115, 32, 111, 110, 101, 32, 111, 102, 32, 116, 104, 114, 101, 101, 32, 107, 105, 110, 100, 115, 32, 97, 110, 100, 32, 111, 110, 101, 32, 108, 101, 116, 116, 101, 114, 32, 97, 115, 32, 105, 116, 115, 32, 110, 97, 109, 101])]))
def laid_loop_example_scopegraphs_impl_errModule {H : Type} : DataW H := .iface "*errors.errorString" (.ptr (.agg [.lit (.string [97, 32, 109, 111, 100, 117, 108, 101, 32, 104, 97, 115, 32, 97, 32, 115, 99, 111, 112, 101, 32, 111, 102, 32, 105, 116, 115, 32, 111, 119, 110, 32, 119, 104, 111, 115, 101, 32, 112, 97, 114, 101, 110, 116, 32, 105, 115, 32, 119, 104, 101, 114, 101, 32, 105, 116, 32, 105, 115, 32, 100, 101, 99, 108, 97, 114, 101, 100])]))
def laid_loop_example_scopegraphs_impl_errNoScope {H : Type} : DataW H := .iface "*errors.errorString" (.ptr (.agg [.lit (.string [116, 104, 101, 32, 103, 114, 97, 112, 104, 32, 104, 97, 115, 32, 110, 111, 32, 115, 117, 99, 104, 32, 115, 99, 111, 112, 101])]))
def laid_loop_example_scopegraphs_impl_errName {H : Type} : DataW H := .iface "*errors.errorString" (.ptr (.agg [.lit (.string [97, 32, 110, 97, 109, 101, 32, 105, 115, 32, 111, 110, 101, 32, 108, 101, 116, 116, 101, 114, 32, 102, 114, 111, 109, 32, 97, 32, 116, 111, 32, 122])]))

/-- 'laws.FnExactLookUpWay': WHATEVER THE INPUT: true; the input reads as it did. -/
def fnExactLookUpWaySpec : ChangeSpec := { name := "fnExactLookUpWay", vars := ["loop.example/scopegraphs/impl.errName", "loop.example/scopegraphs/impl.errScopes", "loop.example/scopegraphs/impl.errItems", "loop.example/scopegraphs/impl.errParent", "loop.example/scopegraphs/impl.errItem", "loop.example/scopegraphs/impl.errModule", "loop.example/scopegraphs/impl.errNoScope"], fn := fun _ => fun
  | [d1, d2, d3, g1, g2, g3, g4, g5, g6, g7] => { results := [.lit (.bool true)], args := [d1, d2, d3], vars := [g1, g2, g3, g4, g5, g6, g7] }
  | _ => none }
def fnExactLookUpWayRow : OpenClaim := { program := "ytcgdligjbkjkcaadoor", sum := "c524516866f45b5b9dc8e601cffdaa1c51d7b7dd66a1dc48338af9337773ea5b", func := "loop.example/scopegraphs/laws.FnExactLookUpWay", spec := "fnExactLookUpWay", unfollowed := true, recurses := true, named := ["loop.example/scopegraphs/impl.errName", "loop.example/scopegraphs/impl.errScopes", "loop.example/scopegraphs/impl.errItems", "loop.example/scopegraphs/impl.errParent", "loop.example/scopegraphs/impl.errItem", "loop.example/scopegraphs/impl.errModule", "loop.example/scopegraphs/impl.errNoScope"], ifaces := true, plainKeys := false, apart := false, laid := [("loop.example/scopegraphs/impl.errScopes", laid_loop_example_scopegraphs_impl_errScopes), ("loop.example/scopegraphs/impl.errParent", laid_loop_example_scopegraphs_impl_errParent), ("loop.example/scopegraphs/impl.errItems", laid_loop_example_scopegraphs_impl_errItems), ("loop.example/scopegraphs/impl.errItem", laid_loop_example_scopegraphs_impl_errItem), ("loop.example/scopegraphs/impl.errModule", laid_loop_example_scopegraphs_impl_errModule), ("loop.example/scopegraphs/impl.errNoScope", laid_loop_example_scopegraphs_impl_errNoScope), ("loop.example/scopegraphs/impl.errName", laid_loop_example_scopegraphs_impl_errName)] }
def FnExactLookUpWaySaid : Prop := fnExactLookUpWayRow.holds Tryd.pinned (OpenSpec.ofChange fnExactLookUpWaySpec)

/-- ITS FALSE NEIGHBOUR: 'it returns false'. Refute it at one input. -/
def fnExactLookUpWayWrong : ChangeSpec := { name := "fnExactLookUpWay", vars := ["loop.example/scopegraphs/impl.errName", "loop.example/scopegraphs/impl.errScopes", "loop.example/scopegraphs/impl.errItems", "loop.example/scopegraphs/impl.errParent", "loop.example/scopegraphs/impl.errItem", "loop.example/scopegraphs/impl.errModule", "loop.example/scopegraphs/impl.errNoScope"], fn := fun _ => fun
  | [d1, d2, d3, g1, g2, g3, g4, g5, g6, g7] => { results := [.lit (.bool false)], args := [d1, d2, d3], vars := [g1, g2, g3, g4, g5, g6, g7] }
  | _ => none }
def FnExactLookUpWayWrongFalsely : Prop := fnExactLookUpWayRow.holds Tryd.pinned (OpenSpec.ofChange fnExactLookUpWayWrong)

/- THE SECOND FORM. 'bulk': how many values and letters a reading holds, each counted each time it is reached (what is shared counts as often as it is met; a slice's spare places count too). A statement '..UptoSaid' is the law's where the arguments, and the package variables that the reading takes, are together of bulk at most 1048576: NARROWER than '..Said'. Prove '..Said' where nothing that the law and all that it calls make is longer than what came in: it says more and counts as full. Else prove '..UptoSaid'. A law counts once. -/
mutual
def uptoBulk {H : Type} : DataW H → Nat
  | .lit (.string bytes) => bytes.length + 1
  | .lit _ => 1
  | .nil => 1
  | .ptr d => uptoBulk d + 1
  | .slice elems spare => uptoBulkAll elems + uptoBulkAll spare + 1
  | .agg parts => uptoBulkAll parts + 1
  | .iface _ d => uptoBulk d + 1
  | .map entries => uptoBulkEntries entries + 1
  | .held _ => 1
def uptoBulkAll {H : Type} : List (DataW H) → Nat
  | [] => 0
  | d :: r => uptoBulk d + uptoBulkAll r
def uptoBulkEntries {H : Type} : List (Lit × DataW H) → Nat
  | [] => 0
  | x :: r => uptoBulkEntry x + uptoBulkEntries r
def uptoBulkEntry {H : Type} : Lit × DataW H → Nat
  | (.string bytes, d) => bytes.length + uptoBulk d + 1
  | (_, d) => uptoBulk d + 1
 end
def uptoSmall : (H : Type) → List (DataW H) → Bool := fun _ ds => decide (uptoBulkAll ds ≤ 1048576)
def OpenSpec.upto (s : _root_.Go.ChangeSpec) : _root_.Go.OpenSpec := { _root_.Go.OpenSpec.ofChange s with cond := some uptoSmall }

/-- 'laws.FnExactLookUpWay', WHERE WHAT IT READS IS OF BULK AT MOST 1048576: true; the input reads as it did. -/
def fnExactLookUpWayUptoRow : OpenClaim := { program := "ytcgdligjbkjkcaadoor", sum := "c524516866f45b5b9dc8e601cffdaa1c51d7b7dd66a1dc48338af9337773ea5b", func := "loop.example/scopegraphs/laws.FnExactLookUpWay", spec := "fnExactLookUpWay", unfollowed := true, recurses := true, named := ["loop.example/scopegraphs/impl.errName", "loop.example/scopegraphs/impl.errScopes", "loop.example/scopegraphs/impl.errItems", "loop.example/scopegraphs/impl.errParent", "loop.example/scopegraphs/impl.errItem", "loop.example/scopegraphs/impl.errModule", "loop.example/scopegraphs/impl.errNoScope"], ifaces := true, plainKeys := false, apart := false, laid := [("loop.example/scopegraphs/impl.errScopes", laid_loop_example_scopegraphs_impl_errScopes), ("loop.example/scopegraphs/impl.errParent", laid_loop_example_scopegraphs_impl_errParent), ("loop.example/scopegraphs/impl.errItems", laid_loop_example_scopegraphs_impl_errItems), ("loop.example/scopegraphs/impl.errItem", laid_loop_example_scopegraphs_impl_errItem), ("loop.example/scopegraphs/impl.errModule", laid_loop_example_scopegraphs_impl_errModule), ("loop.example/scopegraphs/impl.errNoScope", laid_loop_example_scopegraphs_impl_errNoScope), ("loop.example/scopegraphs/impl.errName", laid_loop_example_scopegraphs_impl_errName)], narrowed := true }
def FnExactLookUpWayUptoSaid : Prop := fnExactLookUpWayUptoRow.holds Tryd.pinned (OpenSpec.upto fnExactLookUpWaySpec)

end Rows
end Go.Proofs.YtcgdligjbkjkcaaDoor
