/-
  NARROWER THAN 'FOR EVERY INPUT', by the rows' own cells (each row's printed sentence says how): FnExactFewestGraph: ifaces, laid · FnExactIsFewest: ifaces, laid · FnExactBadNaming: ifaces, laid.
  DERIVED. THE GIVEN ROWS OF THIS SEAT. 3 by the template 'for every input the law returns true; each argument reads behind the call as it read before'; 0 by the template 'total and deterministic' (their statements: YtgehpaojbnpbcaaGreatDoorTotals.lean).
  GIVEN WITH THE SEED: the statements are not yours to turn. If you find one false, say at which input.
  Laid BY PROGRAM, IN A SANDBOX (cutbox-rows.mjs): the forced cells as the released guide's own fill.sh prints them over the translation 0c07637d17276482… (all of the seat's roots in one cut). By AI agents, Wed Nov 11 2026. No macro, syntax, notation, axiom, sorry.
-/
import Derived.Test.YtgehpaojbnpbcaaGreatDoorChecked
import GoSem.Claim
import GoSem.ClaimJoined
import GoSem.ClaimMapViews
import Derived.JoinedTies
import Derived.KernelRfl
namespace Go.Proofs.YtgehpaojbnpbcaaGreatDoor
/- THE CELL 'sum', in the pinned program and in every row, IS THE sha256 OF THE DUMP (.gsa) THAT YtgehpaojbnpbcaaGreatDoorProg.lean LOADS. Nothing in Lean hashes anything: it is a label: what it is worth is what the hold of that sum in a sandbox is worth. -/
noncomputable def Tryz.pinned : Pinned := { name := "ytgehpaojbnpbcaagreatdoor", sum := "0c07637d1727648267fb517baabe59cbe12f2f1adde543f82e48ae1fc4f991ea", checked := Tryz.checked }
namespace Rows
def none {H : Type} : Left H := { results := [], args := [] }

/- WHAT THE LISTED PACKAGE-LEVEL VARIABLES READ AS WHEN THE CALL BEGINS. Each datum BY PROGRAM (the guide's laid-datum.mjs) off the statement by which the dump's own 'gosem.cut.vars' lays the variable. In a bare row this is a premise. The card (YtgehpaojbnpbcaaGreatDoorCards.lean) ties it to the program's text. -/
def laid_loop_example_scopegraphs_impl_errMany {H : Type} : DataW H := .iface "*errors.errorString" (.ptr (.agg [.lit (.string [116, 104, 101, 32, 103, 114, 97, 112, 104, 32, 104, 97, 115, 32, 116, 111, 111, 32, 109, 97, 110, 121, 32, 100, 101, 99, 108, 97, 114, 97, 116, 105, 111, 110, 115])]))
def laid_loop_example_scopegraphs_impl_errScopes {H : Type} : DataW H := .iface "*errors.errorString" (.ptr (.agg [.lit (.string [97, 32, 103, 114, 97, 112, 104, 32, 104, 97, 115, 32, 49, 32, 116, 111, 32, 77, 97, 120, 83, 99, 111, 112, 101, 115, 32, 115, 99, 111, 112, 101, 115])]))
def laid_loop_example_scopegraphs_impl_errParent {H : Type} : DataW H := .iface "*errors.errorString" (.ptr (.agg [.lit (.string [116, 104, 101, 32, 102, 105, 114, 115, 116, 32, 115, 99, 111, 112, 101, 32, 104, 97, 115, 32, 110, 111, 32, 112, 97, 114, 101, 110, 116, 44, 32, 97, 110, 100, 32, 101, 97, 99, 104, 32, 111, 116, 104, 101, 114, 32, 111, 110, 101, 32, 97, 110, 32, 101, 97, 114, 108, 105, 101, 114, 32, 115, 99, 111, 112, 101])]))
def laid_loop_example_scopegraphs_impl_errItems {H : Type} : DataW H := .iface "*errors.errorString" (.ptr (.agg [.lit (.string [97, 32, 115, 99, 111, 112, 101, 32, 104, 97, 115, 32, 97, 116, 32, 109, 111, 115, 116, 32, 77, 97, 120, 73, 116, 101, 109, 115, 32, 105, 116, 101, 109, 115])]))
def laid_loop_example_scopegraphs_impl_errItem {H : Type} : DataW H := .iface "*errors.errorString" (.ptr (.agg [.lit (.string [97, 110, 32, 105, 116, 101, 109, 32, 104, 97, 115, 32, 111, 110, 101, 32, 111, 102, 32, 116, 104, 114, 101, 101, 32, 107, 105, 110, 100, 115, 32, 97, 110, 100, 32, 111, 110, 101, 32, 108, 101, 116, 116, 101, 114, 32, 97, 115, 32, 105, 116, 115, 32, 110, 97, 109, 101])]))
def laid_loop_example_scopegraphs_impl_errModule {H : Type} : DataW H := .iface "*errors.errorString" (.ptr (.agg [.lit (.string [97, 32, 109, 111, 100, 117, 108, 101, 32, 104, 97, 115, 32, 97, 32, 115, 99, 111, 112, 101, 32, 111, 102, 32, 105, 116, 115, 32, 111, 119, 110, 32, 119, 104, 111, 115, 101, 32, 112, 97, 114, 101, 110, 116, 32, 105, 115, 32, 119, 104, 101, 114, 101, 32, 105, 116, 32, 105, 115, 32, 100, 101, 99, 108, 97, 114, 101, 100])]))
def laid_loop_example_scopegraphs_impl_errSeveral {H : Type} : DataW H := .iface "*errors.errorString" (.ptr (.agg [.lit (.string [97, 110, 32, 105, 116, 101, 109, 32, 109, 101, 97, 110, 115, 32, 115, 101, 118, 101, 114, 97, 108, 32, 100, 101, 99, 108, 97, 114, 97, 116, 105, 111, 110, 115])]))
def laid_loop_example_scopegraphs_impl_errNaming {H : Type} : DataW H := .iface "*errors.errorString" (.ptr (.agg [.lit (.string [97, 32, 110, 97, 109, 105, 110, 103, 32, 104, 97, 115, 32, 111, 110, 101, 32, 108, 101, 116, 116, 101, 114, 32, 102, 114, 111, 109, 32, 97, 32, 116, 111, 32, 121, 32, 102, 111, 114, 32, 101, 97, 99, 104, 32, 100, 101, 99, 108, 97, 114, 97, 116, 105, 111, 110])]))

/-- 'laws.FnExactFewestGraph': WHATEVER THE INPUT: true; the input reads as it did. -/
def fnExactFewestGraphSpec : ChangeSpec := { name := "fnExactFewestGraph", vars := ["loop.example/scopegraphs/impl.errMany", "loop.example/scopegraphs/impl.errSeveral", "loop.example/scopegraphs/impl.errScopes", "loop.example/scopegraphs/impl.errItems", "loop.example/scopegraphs/impl.errParent", "loop.example/scopegraphs/impl.errItem", "loop.example/scopegraphs/impl.errModule", "loop.example/scopegraphs/impl.errNaming"], fn := fun _ => fun
  | [d, g1, g2, g3, g4, g5, g6, g7, g8] => { results := [.lit (.bool true)], args := [d], vars := [g1, g2, g3, g4, g5, g6, g7, g8] }
  | _ => none }
def fnExactFewestGraphRow : OpenClaim := { program := "ytgehpaojbnpbcaagreatdoor", sum := "0c07637d1727648267fb517baabe59cbe12f2f1adde543f82e48ae1fc4f991ea", func := "loop.example/scopegraphs/laws.FnExactFewestGraph", spec := "fnExactFewestGraph", unfollowed := true, recurses := true, named := ["loop.example/scopegraphs/impl.errMany", "loop.example/scopegraphs/impl.errSeveral", "loop.example/scopegraphs/impl.errScopes", "loop.example/scopegraphs/impl.errItems", "loop.example/scopegraphs/impl.errParent", "loop.example/scopegraphs/impl.errItem", "loop.example/scopegraphs/impl.errModule", "loop.example/scopegraphs/impl.errNaming"], ifaces := true, plainKeys := false, apart := false, laid := [("loop.example/scopegraphs/impl.errMany", laid_loop_example_scopegraphs_impl_errMany), ("loop.example/scopegraphs/impl.errScopes", laid_loop_example_scopegraphs_impl_errScopes), ("loop.example/scopegraphs/impl.errParent", laid_loop_example_scopegraphs_impl_errParent), ("loop.example/scopegraphs/impl.errItems", laid_loop_example_scopegraphs_impl_errItems), ("loop.example/scopegraphs/impl.errItem", laid_loop_example_scopegraphs_impl_errItem), ("loop.example/scopegraphs/impl.errModule", laid_loop_example_scopegraphs_impl_errModule), ("loop.example/scopegraphs/impl.errSeveral", laid_loop_example_scopegraphs_impl_errSeveral), ("loop.example/scopegraphs/impl.errNaming", laid_loop_example_scopegraphs_impl_errNaming)] }
def FnExactFewestGraphSaid : Prop := fnExactFewestGraphRow.holds Tryz.pinned (OpenSpec.ofChange fnExactFewestGraphSpec)

/-- ITS FALSE NEIGHBOUR: 'it returns false'. Refute it at one input. -/
def fnExactFewestGraphWrong : ChangeSpec := { name := "fnExactFewestGraph", vars := ["loop.example/scopegraphs/impl.errMany", "loop.example/scopegraphs/impl.errSeveral", "loop.example/scopegraphs/impl.errScopes", "loop.example/scopegraphs/impl.errItems", "loop.example/scopegraphs/impl.errParent", "loop.example/scopegraphs/impl.errItem", "loop.example/scopegraphs/impl.errModule", "loop.example/scopegraphs/impl.errNaming"], fn := fun _ => fun
  | [d, g1, g2, g3, g4, g5, g6, g7, g8] => { results := [.lit (.bool false)], args := [d], vars := [g1, g2, g3, g4, g5, g6, g7, g8] }
  | _ => none }
def FnExactFewestGraphWrongFalsely : Prop := fnExactFewestGraphRow.holds Tryz.pinned (OpenSpec.ofChange fnExactFewestGraphWrong)

/-- 'laws.FnExactIsFewest': WHATEVER THE INPUT: true; the input reads as it did. -/
def fnExactIsFewestSpec : ChangeSpec := { name := "fnExactIsFewest", vars := ["loop.example/scopegraphs/impl.errMany", "loop.example/scopegraphs/impl.errSeveral", "loop.example/scopegraphs/impl.errScopes", "loop.example/scopegraphs/impl.errItems", "loop.example/scopegraphs/impl.errParent", "loop.example/scopegraphs/impl.errItem", "loop.example/scopegraphs/impl.errModule", "loop.example/scopegraphs/impl.errNaming"], fn := fun _ => fun
  | [d, g1, g2, g3, g4, g5, g6, g7, g8] => { results := [.lit (.bool true)], args := [d], vars := [g1, g2, g3, g4, g5, g6, g7, g8] }
  | _ => none }
def fnExactIsFewestRow : OpenClaim := { program := "ytgehpaojbnpbcaagreatdoor", sum := "0c07637d1727648267fb517baabe59cbe12f2f1adde543f82e48ae1fc4f991ea", func := "loop.example/scopegraphs/laws.FnExactIsFewest", spec := "fnExactIsFewest", unfollowed := true, recurses := true, named := ["loop.example/scopegraphs/impl.errMany", "loop.example/scopegraphs/impl.errSeveral", "loop.example/scopegraphs/impl.errScopes", "loop.example/scopegraphs/impl.errItems", "loop.example/scopegraphs/impl.errParent", "loop.example/scopegraphs/impl.errItem", "loop.example/scopegraphs/impl.errModule", "loop.example/scopegraphs/impl.errNaming"], ifaces := true, plainKeys := false, apart := false, laid := [("loop.example/scopegraphs/impl.errMany", laid_loop_example_scopegraphs_impl_errMany), ("loop.example/scopegraphs/impl.errScopes", laid_loop_example_scopegraphs_impl_errScopes), ("loop.example/scopegraphs/impl.errParent", laid_loop_example_scopegraphs_impl_errParent), ("loop.example/scopegraphs/impl.errItems", laid_loop_example_scopegraphs_impl_errItems), ("loop.example/scopegraphs/impl.errItem", laid_loop_example_scopegraphs_impl_errItem), ("loop.example/scopegraphs/impl.errModule", laid_loop_example_scopegraphs_impl_errModule), ("loop.example/scopegraphs/impl.errSeveral", laid_loop_example_scopegraphs_impl_errSeveral), ("loop.example/scopegraphs/impl.errNaming", laid_loop_example_scopegraphs_impl_errNaming)] }
def FnExactIsFewestSaid : Prop := fnExactIsFewestRow.holds Tryz.pinned (OpenSpec.ofChange fnExactIsFewestSpec)

/-- ITS FALSE NEIGHBOUR: 'it returns false'. Refute it at one input. -/
def fnExactIsFewestWrong : ChangeSpec := { name := "fnExactIsFewest", vars := ["loop.example/scopegraphs/impl.errMany", "loop.example/scopegraphs/impl.errSeveral", "loop.example/scopegraphs/impl.errScopes", "loop.example/scopegraphs/impl.errItems", "loop.example/scopegraphs/impl.errParent", "loop.example/scopegraphs/impl.errItem", "loop.example/scopegraphs/impl.errModule", "loop.example/scopegraphs/impl.errNaming"], fn := fun _ => fun
  | [d, g1, g2, g3, g4, g5, g6, g7, g8] => { results := [.lit (.bool false)], args := [d], vars := [g1, g2, g3, g4, g5, g6, g7, g8] }
  | _ => none }
def FnExactIsFewestWrongFalsely : Prop := fnExactIsFewestRow.holds Tryz.pinned (OpenSpec.ofChange fnExactIsFewestWrong)

/-- 'laws.FnExactBadNaming': WHATEVER THE INPUT: true; the input reads as it did. -/
def fnExactBadNamingSpec : ChangeSpec := { name := "fnExactBadNaming", vars := ["loop.example/scopegraphs/impl.errSeveral", "loop.example/scopegraphs/impl.errScopes", "loop.example/scopegraphs/impl.errItems", "loop.example/scopegraphs/impl.errParent", "loop.example/scopegraphs/impl.errItem", "loop.example/scopegraphs/impl.errModule", "loop.example/scopegraphs/impl.errNaming"], fn := fun _ => fun
  | [d1, d2, g1, g2, g3, g4, g5, g6, g7] => { results := [.lit (.bool true)], args := [d1, d2], vars := [g1, g2, g3, g4, g5, g6, g7] }
  | _ => none }
def fnExactBadNamingRow : OpenClaim := { program := "ytgehpaojbnpbcaagreatdoor", sum := "0c07637d1727648267fb517baabe59cbe12f2f1adde543f82e48ae1fc4f991ea", func := "loop.example/scopegraphs/laws.FnExactBadNaming", spec := "fnExactBadNaming", unfollowed := true, recurses := true, named := ["loop.example/scopegraphs/impl.errSeveral", "loop.example/scopegraphs/impl.errScopes", "loop.example/scopegraphs/impl.errItems", "loop.example/scopegraphs/impl.errParent", "loop.example/scopegraphs/impl.errItem", "loop.example/scopegraphs/impl.errModule", "loop.example/scopegraphs/impl.errNaming"], ifaces := true, plainKeys := false, apart := false, laid := [("loop.example/scopegraphs/impl.errScopes", laid_loop_example_scopegraphs_impl_errScopes), ("loop.example/scopegraphs/impl.errParent", laid_loop_example_scopegraphs_impl_errParent), ("loop.example/scopegraphs/impl.errItems", laid_loop_example_scopegraphs_impl_errItems), ("loop.example/scopegraphs/impl.errItem", laid_loop_example_scopegraphs_impl_errItem), ("loop.example/scopegraphs/impl.errModule", laid_loop_example_scopegraphs_impl_errModule), ("loop.example/scopegraphs/impl.errSeveral", laid_loop_example_scopegraphs_impl_errSeveral), ("loop.example/scopegraphs/impl.errNaming", laid_loop_example_scopegraphs_impl_errNaming)] }
def FnExactBadNamingSaid : Prop := fnExactBadNamingRow.holds Tryz.pinned (OpenSpec.ofChange fnExactBadNamingSpec)

/-- ITS FALSE NEIGHBOUR: 'it returns false'. Refute it at one input. -/
def fnExactBadNamingWrong : ChangeSpec := { name := "fnExactBadNaming", vars := ["loop.example/scopegraphs/impl.errSeveral", "loop.example/scopegraphs/impl.errScopes", "loop.example/scopegraphs/impl.errItems", "loop.example/scopegraphs/impl.errParent", "loop.example/scopegraphs/impl.errItem", "loop.example/scopegraphs/impl.errModule", "loop.example/scopegraphs/impl.errNaming"], fn := fun _ => fun
  | [d1, d2, g1, g2, g3, g4, g5, g6, g7] => { results := [.lit (.bool false)], args := [d1, d2], vars := [g1, g2, g3, g4, g5, g6, g7] }
  | _ => none }
def FnExactBadNamingWrongFalsely : Prop := fnExactBadNamingRow.holds Tryz.pinned (OpenSpec.ofChange fnExactBadNamingWrong)

/- THE SECOND FORM. 'bulk': how many values and letters a reading holds, each counted each time it is reached (what is shared counts as often as it is met; a slice's spare places count too). A statement '..UptoSaid' is the law's where the arguments, and the package variables that the reading takes, are together of bulk at most 1048576: NARROWER than '..Said'. Prove '..Said' where nothing that the law and all that it calls make is longer than what came in: it says more and counts as full. Else prove '..UptoSaid'. A law counts once. -/
mutual
def uptoBulk {H : Type} : DataW H → Nat
  | .lit (.string bytes) => bytes.length + 1
  | .lit _ => 1
  | .nil => 1
  | .ptr d => uptoBulk d + 1
  | .slice elems spare => uptoBulkAll elems + uptoBulkAll spare + 1
  | .agg parts => uptoBulkAll parts + 1
  | .iface _ d => uptoBulk d + 1
  | .map entries => uptoBulkEntries entries + 1
  | .held _ => 1
def uptoBulkAll {H : Type} : List (DataW H) → Nat
  | [] => 0
  | d :: r => uptoBulk d + uptoBulkAll r
def uptoBulkEntries {H : Type} : List (Lit × DataW H) → Nat
  | [] => 0
  | x :: r => uptoBulkEntry x + uptoBulkEntries r
def uptoBulkEntry {H : Type} : Lit × DataW H → Nat
  | (.string bytes, d) => bytes.length + uptoBulk d + 1
  | (_, d) => uptoBulk d + 1
 end
def uptoSmall : (H : Type) → List (DataW H) → Bool := fun _ ds => decide (uptoBulkAll ds ≤ 1048576)
def OpenSpec.upto (s : _root_.Go.ChangeSpec) : _root_.Go.OpenSpec := { _root_.Go.OpenSpec.ofChange s with cond := some uptoSmall }

/-- 'laws.FnExactFewestGraph', WHERE WHAT IT READS IS OF BULK AT MOST 1048576: true; the input reads as it did. -/
def fnExactFewestGraphUptoRow : OpenClaim := { program := "ytgehpaojbnpbcaagreatdoor", sum := "0c07637d1727648267fb517baabe59cbe12f2f1adde543f82e48ae1fc4f991ea", func := "loop.example/scopegraphs/laws.FnExactFewestGraph", spec := "fnExactFewestGraph", unfollowed := true, recurses := true, named := ["loop.example/scopegraphs/impl.errMany", "loop.example/scopegraphs/impl.errSeveral", "loop.example/scopegraphs/impl.errScopes", "loop.example/scopegraphs/impl.errItems", "loop.example/scopegraphs/impl.errParent", "loop.example/scopegraphs/impl.errItem", "loop.example/scopegraphs/impl.errModule", "loop.example/scopegraphs/impl.errNaming"], ifaces := true, plainKeys := false, apart := false, laid := [("loop.example/scopegraphs/impl.errMany", laid_loop_example_scopegraphs_impl_errMany), ("loop.example/scopegraphs/impl.errScopes", laid_loop_example_scopegraphs_impl_errScopes), ("loop.example/scopegraphs/impl.errParent", laid_loop_example_scopegraphs_impl_errParent), ("loop.example/scopegraphs/impl.errItems", laid_loop_example_scopegraphs_impl_errItems), ("loop.example/scopegraphs/impl.errItem", laid_loop_example_scopegraphs_impl_errItem), ("loop.example/scopegraphs/impl.errModule", laid_loop_example_scopegraphs_impl_errModule), ("loop.example/scopegraphs/impl.errSeveral", laid_loop_example_scopegraphs_impl_errSeveral), ("loop.example/scopegraphs/impl.errNaming", laid_loop_example_scopegraphs_impl_errNaming)], narrowed := true }
def FnExactFewestGraphUptoSaid : Prop := fnExactFewestGraphUptoRow.holds Tryz.pinned (OpenSpec.upto fnExactFewestGraphSpec)

/-- 'laws.FnExactIsFewest', WHERE WHAT IT READS IS OF BULK AT MOST 1048576: true; the input reads as it did. -/
def fnExactIsFewestUptoRow : OpenClaim := { program := "ytgehpaojbnpbcaagreatdoor", sum := "0c07637d1727648267fb517baabe59cbe12f2f1adde543f82e48ae1fc4f991ea", func := "loop.example/scopegraphs/laws.FnExactIsFewest", spec := "fnExactIsFewest", unfollowed := true, recurses := true, named := ["loop.example/scopegraphs/impl.errMany", "loop.example/scopegraphs/impl.errSeveral", "loop.example/scopegraphs/impl.errScopes", "loop.example/scopegraphs/impl.errItems", "loop.example/scopegraphs/impl.errParent", "loop.example/scopegraphs/impl.errItem", "loop.example/scopegraphs/impl.errModule", "loop.example/scopegraphs/impl.errNaming"], ifaces := true, plainKeys := false, apart := false, laid := [("loop.example/scopegraphs/impl.errMany", laid_loop_example_scopegraphs_impl_errMany), ("loop.example/scopegraphs/impl.errScopes", laid_loop_example_scopegraphs_impl_errScopes), ("loop.example/scopegraphs/impl.errParent", laid_loop_example_scopegraphs_impl_errParent), ("loop.example/scopegraphs/impl.errItems", laid_loop_example_scopegraphs_impl_errItems), ("loop.example/scopegraphs/impl.errItem", laid_loop_example_scopegraphs_impl_errItem), ("loop.example/scopegraphs/impl.errModule", laid_loop_example_scopegraphs_impl_errModule), ("loop.example/scopegraphs/impl.errSeveral", laid_loop_example_scopegraphs_impl_errSeveral), ("loop.example/scopegraphs/impl.errNaming", laid_loop_example_scopegraphs_impl_errNaming)], narrowed := true }
def FnExactIsFewestUptoSaid : Prop := fnExactIsFewestUptoRow.holds Tryz.pinned (OpenSpec.upto fnExactIsFewestSpec)

/-- 'laws.FnExactBadNaming', WHERE WHAT IT READS IS OF BULK AT MOST 1048576: true; the input reads as it did. -/
def fnExactBadNamingUptoRow : OpenClaim := { program := "ytgehpaojbnpbcaagreatdoor", sum := "0c07637d1727648267fb517baabe59cbe12f2f1adde543f82e48ae1fc4f991ea", func := "loop.example/scopegraphs/laws.FnExactBadNaming", spec := "fnExactBadNaming", unfollowed := true, recurses := true, named := ["loop.example/scopegraphs/impl.errSeveral", "loop.example/scopegraphs/impl.errScopes", "loop.example/scopegraphs/impl.errItems", "loop.example/scopegraphs/impl.errParent", "loop.example/scopegraphs/impl.errItem", "loop.example/scopegraphs/impl.errModule", "loop.example/scopegraphs/impl.errNaming"], ifaces := true, plainKeys := false, apart := false, laid := [("loop.example/scopegraphs/impl.errScopes", laid_loop_example_scopegraphs_impl_errScopes), ("loop.example/scopegraphs/impl.errParent", laid_loop_example_scopegraphs_impl_errParent), ("loop.example/scopegraphs/impl.errItems", laid_loop_example_scopegraphs_impl_errItems), ("loop.example/scopegraphs/impl.errItem", laid_loop_example_scopegraphs_impl_errItem), ("loop.example/scopegraphs/impl.errModule", laid_loop_example_scopegraphs_impl_errModule), ("loop.example/scopegraphs/impl.errSeveral", laid_loop_example_scopegraphs_impl_errSeveral), ("loop.example/scopegraphs/impl.errNaming", laid_loop_example_scopegraphs_impl_errNaming)], narrowed := true }
def FnExactBadNamingUptoSaid : Prop := fnExactBadNamingUptoRow.holds Tryz.pinned (OpenSpec.upto fnExactBadNamingSpec)

end Rows
end Go.Proofs.YtgehpaojbnpbcaaGreatDoor
