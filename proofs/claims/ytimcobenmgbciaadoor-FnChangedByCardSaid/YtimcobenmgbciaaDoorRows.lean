/-
  NARROWER THAN 'FOR EVERY INPUT', by the rows' own cells (each row's printed sentence says how): FnResolve: ifaces, laid · FnChangedBy: ifaces, laid · FnExactUsersOf: ifaces, laid · FnExactRemoveUnused: ifaces, laid · FnExactRenameAt: ifaces, laid · FnExactCanRename: ifaces, laid · FnExactSwapNames: ifaces, laid · FnExactSameTable: ifaces, laid · FnExactSameShape: ifaces, laid.
  DERIVED. THE GIVEN ROWS OF THIS SEAT. 9 by the template 'for every input the law returns true; each argument reads behind the call as it read before'; 0 by the template 'total and deterministic' (their statements: YtimcobenmgbciaaDoorTotals.lean).
  GIVEN WITH THE SEED: the statements are not yours to turn. If you find one false, say at which input.
  Laid BY PROGRAM, IN A SANDBOX (cutbox-rows.mjs): the forced cells as the released guide's own fill.sh prints them over the translation b6d6d88d556bd599… (all of the seat's roots in one cut). By AI agents, Wed Nov 11 2026. No macro, syntax, notation, axiom, sorry.
-/
import Derived.Test.YtimcobenmgbciaaDoorChecked
import GoSem.Claim
import GoSem.ClaimJoined
import GoSem.ClaimMapViews
import Derived.JoinedTies
import Derived.KernelRfl
namespace Go.Proofs.YtimcobenmgbciaaDoor
/- THE CELL 'sum', in the pinned program and in every row, IS THE sha256 OF THE DUMP (.gsa) THAT YtimcobenmgbciaaDoorProg.lean LOADS. Nothing in Lean hashes anything: it is a label: what it is worth is what the hold of that sum in a sandbox is worth. -/
noncomputable def Tryd.pinned : Pinned := { name := "ytimcobenmgbciaadoor", sum := "b6d6d88d556bd599cdba8a5b1713a8d4a960803a2f4d4374a4bf59d658d38c22", checked := Tryd.checked }
namespace Rows
def none {H : Type} : Left H := { results := [], args := [] }

/- WHAT THE LISTED PACKAGE-LEVEL VARIABLES READ AS WHEN THE CALL BEGINS. Each datum BY PROGRAM (the guide's laid-datum.mjs) off the statement by which the dump's own 'gosem.cut.vars' lays the variable. In a bare row this is a premise. The card (YtimcobenmgbciaaDoorCards.lean) ties it to the program's text. -/
def laid_loop_example_scopegraphs_impl_errScopes {H : Type} : DataW H := .iface "*errors.errorString" (.ptr (.agg [.lit (.string [97, 32, 103, 114, 97, 112, 104, 32, 104, 97, 115, 32, 49, 32, 116, 111, 32, 77, 97, 120, 83, 99, 111, 112, 101, 115, 32, 115, 99, 111, 112, 101, 115])]))
def laid_loop_example_scopegraphs_impl_errParent {H : Type} : DataW H := .iface "*errors.errorString" (.ptr (.agg [.lit (.string [116, 104, 101, 32, 102, 105, 114, 115, 116, 32, 115, 99, 111, 112, 101, 32, 104, 97, 115, 32, 110, 111, 32, 112, 97, 114, 101, 110, 116, 44, 32, 97, 110, 100, 32, 101, 97, 99, 104, 32, 111, 116, 104, 101, 114, 32, 111, 110, 101, 32, 97, 110, 32, 101, 97, 114, 108, 105, 101, 114, 32, 115, 99, 111, 112, 101])]))
def laid_loop_example_scopegraphs_impl_errItems {H : Type} : DataW H := .iface "*errors.errorString" (.ptr (.agg [.lit (.string [97, 32, 115, 99, 111, 112, 101, 32, 104, 97, 115, 32, 97, 116, 32, 109, 111, 115, 116, 32, 77, 97, 120, 73, 116, 101, 109, 115, 32, 105, 116, 101, 109, 115])]))
def laid_loop_example_scopegraphs_impl_errItem {H : Type} : DataW H := .iface "*errors.errorString" (.ptr (.agg [.lit (.string [97, 110, 32, 105, 116, 101, 109, 32, 104, 97, 115, 32, 111, 110, 101, 32, 111, 102, 32, 116, 104, 114, 101, 101, 32, 107, 105, 110, 100, 115, 32, 97, 110, 100, 32, 111, 110, 101, 32, 108, 101, 116, 116, 101, 114, 32, 97, 115, 32, 105, 116, 115, 32, 110, 97, 109, 101])]))
def laid_loop_example_scopegraphs_impl_errModule {H : Type} : DataW H := .iface "*errors.errorString" (.ptr (.agg [.lit (.string [97, 32, 109, 111, 100, 117, 108, 101, 32, 104, 97, 115, 32, 97, 32, 115, 99, 111, 112, 101, 32, 111, 102, 32, 105, 116, 115, 32, 111, 119, 110, 32, 119, 104, 111, 115, 101, 32, 112, 97, 114, 101, 110, 116, 32, 105, 115, 32, 119, 104, 101, 114, 101, 32, 105, 116, 32, 105, 115, 32, 100, 101, 99, 108, 97, 114, 101, 100])]))
def laid_loop_example_scopegraphs_impl_errNoScope {H : Type} : DataW H := .iface "*errors.errorString" (.ptr (.agg [.lit (.string [116, 104, 101, 32, 103, 114, 97, 112, 104, 32, 104, 97, 115, 32, 110, 111, 32, 115, 117, 99, 104, 32, 115, 99, 111, 112, 101])]))
def laid_loop_example_scopegraphs_impl_errName {H : Type} : DataW H := .iface "*errors.errorString" (.ptr (.agg [.lit (.string [97, 32, 110, 97, 109, 101, 32, 105, 115, 32, 111, 110, 101, 32, 108, 101, 116, 116, 101, 114, 32, 102, 114, 111, 109, 32, 97, 32, 116, 111, 32, 122])]))
def laid_loop_example_scopegraphs_impl_stateWords {H : Type} : DataW H := .agg [.lit (.string [110, 111, 110, 101]), .lit (.string [102, 111, 117, 110, 100]), .lit (.string [109, 105, 115, 115, 105, 110, 103]), .lit (.string [97, 109, 98, 105, 103, 117, 111, 117, 115]), .lit (.string [112, 108, 97, 105, 110])]

/-- 'laws.FnResolve': WHATEVER THE INPUT: true; the input reads as it did. -/
def fnResolveSpec : ChangeSpec := { name := "fnResolve", vars := ["loop.example/scopegraphs/impl.errScopes", "loop.example/scopegraphs/impl.errItems", "loop.example/scopegraphs/impl.errParent", "loop.example/scopegraphs/impl.errItem", "loop.example/scopegraphs/impl.errModule", "loop.example/scopegraphs/impl.stateWords", "loop.example/scopegraphs/impl.errName", "loop.example/scopegraphs/impl.errNoScope"], fn := fun _ => fun
  | [d1, d2, g1, g2, g3, g4, g5, g6, g7, g8] => { results := [.lit (.bool true)], args := [d1, d2], vars := [g1, g2, g3, g4, g5, g6, g7, g8] }
  | _ => none }
def fnResolveRow : OpenClaim := { program := "ytimcobenmgbciaadoor", sum := "b6d6d88d556bd599cdba8a5b1713a8d4a960803a2f4d4374a4bf59d658d38c22", func := "loop.example/scopegraphs/laws.FnResolve", spec := "fnResolve", unfollowed := true, recurses := true, named := ["loop.example/scopegraphs/impl.errScopes", "loop.example/scopegraphs/impl.errItems", "loop.example/scopegraphs/impl.errParent", "loop.example/scopegraphs/impl.errItem", "loop.example/scopegraphs/impl.errModule", "loop.example/scopegraphs/impl.stateWords", "loop.example/scopegraphs/impl.errName", "loop.example/scopegraphs/impl.errNoScope"], ifaces := true, plainKeys := false, apart := false, laid := [("loop.example/scopegraphs/impl.errScopes", laid_loop_example_scopegraphs_impl_errScopes), ("loop.example/scopegraphs/impl.errParent", laid_loop_example_scopegraphs_impl_errParent), ("loop.example/scopegraphs/impl.errItems", laid_loop_example_scopegraphs_impl_errItems), ("loop.example/scopegraphs/impl.errItem", laid_loop_example_scopegraphs_impl_errItem), ("loop.example/scopegraphs/impl.errModule", laid_loop_example_scopegraphs_impl_errModule), ("loop.example/scopegraphs/impl.errNoScope", laid_loop_example_scopegraphs_impl_errNoScope), ("loop.example/scopegraphs/impl.errName", laid_loop_example_scopegraphs_impl_errName), ("loop.example/scopegraphs/impl.stateWords", laid_loop_example_scopegraphs_impl_stateWords)] }
def FnResolveSaid : Prop := fnResolveRow.holds Tryd.pinned (OpenSpec.ofChange fnResolveSpec)

/-- ITS FALSE NEIGHBOUR: 'it returns false'. Refute it at one input. -/
def fnResolveWrong : ChangeSpec := { name := "fnResolve", vars := ["loop.example/scopegraphs/impl.errScopes", "loop.example/scopegraphs/impl.errItems", "loop.example/scopegraphs/impl.errParent", "loop.example/scopegraphs/impl.errItem", "loop.example/scopegraphs/impl.errModule", "loop.example/scopegraphs/impl.stateWords", "loop.example/scopegraphs/impl.errName", "loop.example/scopegraphs/impl.errNoScope"], fn := fun _ => fun
  | [d1, d2, g1, g2, g3, g4, g5, g6, g7, g8] => { results := [.lit (.bool false)], args := [d1, d2], vars := [g1, g2, g3, g4, g5, g6, g7, g8] }
  | _ => none }
def FnResolveWrongFalsely : Prop := fnResolveRow.holds Tryd.pinned (OpenSpec.ofChange fnResolveWrong)

/-- 'laws.FnChangedBy': WHATEVER THE INPUT: true; the input reads as it did. -/
def fnChangedBySpec : ChangeSpec := { name := "fnChangedBy", vars := ["loop.example/scopegraphs/impl.errScopes", "loop.example/scopegraphs/impl.errItems", "loop.example/scopegraphs/impl.errParent", "loop.example/scopegraphs/impl.errItem", "loop.example/scopegraphs/impl.errModule"], fn := fun _ => fun
  | [d, g1, g2, g3, g4, g5] => { results := [.lit (.bool true)], args := [d], vars := [g1, g2, g3, g4, g5] }
  | _ => none }
def fnChangedByRow : OpenClaim := { program := "ytimcobenmgbciaadoor", sum := "b6d6d88d556bd599cdba8a5b1713a8d4a960803a2f4d4374a4bf59d658d38c22", func := "loop.example/scopegraphs/laws.FnChangedBy", spec := "fnChangedBy", unfollowed := true, recurses := true, named := ["loop.example/scopegraphs/impl.errScopes", "loop.example/scopegraphs/impl.errItems", "loop.example/scopegraphs/impl.errParent", "loop.example/scopegraphs/impl.errItem", "loop.example/scopegraphs/impl.errModule"], ifaces := true, plainKeys := false, apart := false, laid := [("loop.example/scopegraphs/impl.errScopes", laid_loop_example_scopegraphs_impl_errScopes), ("loop.example/scopegraphs/impl.errParent", laid_loop_example_scopegraphs_impl_errParent), ("loop.example/scopegraphs/impl.errItems", laid_loop_example_scopegraphs_impl_errItems), ("loop.example/scopegraphs/impl.errItem", laid_loop_example_scopegraphs_impl_errItem), ("loop.example/scopegraphs/impl.errModule", laid_loop_example_scopegraphs_impl_errModule)] }
def FnChangedBySaid : Prop := fnChangedByRow.holds Tryd.pinned (OpenSpec.ofChange fnChangedBySpec)

/-- ITS FALSE NEIGHBOUR: 'it returns false'. Refute it at one input. -/
def fnChangedByWrong : ChangeSpec := { name := "fnChangedBy", vars := ["loop.example/scopegraphs/impl.errScopes", "loop.example/scopegraphs/impl.errItems", "loop.example/scopegraphs/impl.errParent", "loop.example/scopegraphs/impl.errItem", "loop.example/scopegraphs/impl.errModule"], fn := fun _ => fun
  | [d, g1, g2, g3, g4, g5] => { results := [.lit (.bool false)], args := [d], vars := [g1, g2, g3, g4, g5] }
  | _ => none }
def FnChangedByWrongFalsely : Prop := fnChangedByRow.holds Tryd.pinned (OpenSpec.ofChange fnChangedByWrong)

/-- 'laws.FnExactUsersOf': WHATEVER THE INPUT: true; the input reads as it did. -/
def fnExactUsersOfSpec : ChangeSpec := { name := "fnExactUsersOf", vars := ["loop.example/scopegraphs/impl.errScopes", "loop.example/scopegraphs/impl.errItems", "loop.example/scopegraphs/impl.errParent", "loop.example/scopegraphs/impl.errItem", "loop.example/scopegraphs/impl.errModule"], fn := fun _ => fun
  | [d1, d2, g1, g2, g3, g4, g5] => { results := [.lit (.bool true)], args := [d1, d2], vars := [g1, g2, g3, g4, g5] }
  | _ => none }
def fnExactUsersOfRow : OpenClaim := { program := "ytimcobenmgbciaadoor", sum := "b6d6d88d556bd599cdba8a5b1713a8d4a960803a2f4d4374a4bf59d658d38c22", func := "loop.example/scopegraphs/laws.FnExactUsersOf", spec := "fnExactUsersOf", unfollowed := true, recurses := true, named := ["loop.example/scopegraphs/impl.errScopes", "loop.example/scopegraphs/impl.errItems", "loop.example/scopegraphs/impl.errParent", "loop.example/scopegraphs/impl.errItem", "loop.example/scopegraphs/impl.errModule"], ifaces := true, plainKeys := false, apart := false, laid := [("loop.example/scopegraphs/impl.errScopes", laid_loop_example_scopegraphs_impl_errScopes), ("loop.example/scopegraphs/impl.errParent", laid_loop_example_scopegraphs_impl_errParent), ("loop.example/scopegraphs/impl.errItems", laid_loop_example_scopegraphs_impl_errItems), ("loop.example/scopegraphs/impl.errItem", laid_loop_example_scopegraphs_impl_errItem), ("loop.example/scopegraphs/impl.errModule", laid_loop_example_scopegraphs_impl_errModule)] }
def FnExactUsersOfSaid : Prop := fnExactUsersOfRow.holds Tryd.pinned (OpenSpec.ofChange fnExactUsersOfSpec)

/-- ITS FALSE NEIGHBOUR: 'it returns false'. Refute it at one input. -/
def fnExactUsersOfWrong : ChangeSpec := { name := "fnExactUsersOf", vars := ["loop.example/scopegraphs/impl.errScopes", "loop.example/scopegraphs/impl.errItems", "loop.example/scopegraphs/impl.errParent", "loop.example/scopegraphs/impl.errItem", "loop.example/scopegraphs/impl.errModule"], fn := fun _ => fun
  | [d1, d2, g1, g2, g3, g4, g5] => { results := [.lit (.bool false)], args := [d1, d2], vars := [g1, g2, g3, g4, g5] }
  | _ => none }
def FnExactUsersOfWrongFalsely : Prop := fnExactUsersOfRow.holds Tryd.pinned (OpenSpec.ofChange fnExactUsersOfWrong)

/-- 'laws.FnExactRemoveUnused': WHATEVER THE INPUT: true; the input reads as it did. -/
def fnExactRemoveUnusedSpec : ChangeSpec := { name := "fnExactRemoveUnused", vars := ["loop.example/scopegraphs/impl.errScopes", "loop.example/scopegraphs/impl.errItems", "loop.example/scopegraphs/impl.errParent", "loop.example/scopegraphs/impl.errItem", "loop.example/scopegraphs/impl.errModule"], fn := fun _ => fun
  | [d, g1, g2, g3, g4, g5] => { results := [.lit (.bool true)], args := [d], vars := [g1, g2, g3, g4, g5] }
  | _ => none }
def fnExactRemoveUnusedRow : OpenClaim := { program := "ytimcobenmgbciaadoor", sum := "b6d6d88d556bd599cdba8a5b1713a8d4a960803a2f4d4374a4bf59d658d38c22", func := "loop.example/scopegraphs/laws.FnExactRemoveUnused", spec := "fnExactRemoveUnused", unfollowed := true, recurses := true, named := ["loop.example/scopegraphs/impl.errScopes", "loop.example/scopegraphs/impl.errItems", "loop.example/scopegraphs/impl.errParent", "loop.example/scopegraphs/impl.errItem", "loop.example/scopegraphs/impl.errModule"], ifaces := true, plainKeys := false, apart := false, laid := [("loop.example/scopegraphs/impl.errScopes", laid_loop_example_scopegraphs_impl_errScopes), ("loop.example/scopegraphs/impl.errParent", laid_loop_example_scopegraphs_impl_errParent), ("loop.example/scopegraphs/impl.errItems", laid_loop_example_scopegraphs_impl_errItems), ("loop.example/scopegraphs/impl.errItem", laid_loop_example_scopegraphs_impl_errItem), ("loop.example/scopegraphs/impl.errModule", laid_loop_example_scopegraphs_impl_errModule)] }
def FnExactRemoveUnusedSaid : Prop := fnExactRemoveUnusedRow.holds Tryd.pinned (OpenSpec.ofChange fnExactRemoveUnusedSpec)

/-- ITS FALSE NEIGHBOUR: 'it returns false'. Refute it at one input. -/
def fnExactRemoveUnusedWrong : ChangeSpec := { name := "fnExactRemoveUnused", vars := ["loop.example/scopegraphs/impl.errScopes", "loop.example/scopegraphs/impl.errItems", "loop.example/scopegraphs/impl.errParent", "loop.example/scopegraphs/impl.errItem", "loop.example/scopegraphs/impl.errModule"], fn := fun _ => fun
  | [d, g1, g2, g3, g4, g5] => { results := [.lit (.bool false)], args := [d], vars := [g1, g2, g3, g4, g5] }
  | _ => none }
def FnExactRemoveUnusedWrongFalsely : Prop := fnExactRemoveUnusedRow.holds Tryd.pinned (OpenSpec.ofChange fnExactRemoveUnusedWrong)

/-- 'laws.FnExactRenameAt': WHATEVER THE INPUT: true; the input reads as it did. -/
def fnExactRenameAtSpec : ChangeSpec := { name := "fnExactRenameAt", vars := ["loop.example/scopegraphs/impl.errScopes", "loop.example/scopegraphs/impl.errItems", "loop.example/scopegraphs/impl.errParent", "loop.example/scopegraphs/impl.errItem", "loop.example/scopegraphs/impl.errModule"], fn := fun _ => fun
  | [d1, d2, d3, g1, g2, g3, g4, g5] => { results := [.lit (.bool true)], args := [d1, d2, d3], vars := [g1, g2, g3, g4, g5] }
  | _ => none }
def fnExactRenameAtRow : OpenClaim := { program := "ytimcobenmgbciaadoor", sum := "b6d6d88d556bd599cdba8a5b1713a8d4a960803a2f4d4374a4bf59d658d38c22", func := "loop.example/scopegraphs/laws.FnExactRenameAt", spec := "fnExactRenameAt", unfollowed := true, recurses := true, named := ["loop.example/scopegraphs/impl.errScopes", "loop.example/scopegraphs/impl.errItems", "loop.example/scopegraphs/impl.errParent", "loop.example/scopegraphs/impl.errItem", "loop.example/scopegraphs/impl.errModule"], ifaces := true, plainKeys := false, apart := false, laid := [("loop.example/scopegraphs/impl.errScopes", laid_loop_example_scopegraphs_impl_errScopes), ("loop.example/scopegraphs/impl.errParent", laid_loop_example_scopegraphs_impl_errParent), ("loop.example/scopegraphs/impl.errItems", laid_loop_example_scopegraphs_impl_errItems), ("loop.example/scopegraphs/impl.errItem", laid_loop_example_scopegraphs_impl_errItem), ("loop.example/scopegraphs/impl.errModule", laid_loop_example_scopegraphs_impl_errModule)] }
def FnExactRenameAtSaid : Prop := fnExactRenameAtRow.holds Tryd.pinned (OpenSpec.ofChange fnExactRenameAtSpec)

/-- ITS FALSE NEIGHBOUR: 'it returns false'. Refute it at one input. -/
def fnExactRenameAtWrong : ChangeSpec := { name := "fnExactRenameAt", vars := ["loop.example/scopegraphs/impl.errScopes", "loop.example/scopegraphs/impl.errItems", "loop.example/scopegraphs/impl.errParent", "loop.example/scopegraphs/impl.errItem", "loop.example/scopegraphs/impl.errModule"], fn := fun _ => fun
  | [d1, d2, d3, g1, g2, g3, g4, g5] => { results := [.lit (.bool false)], args := [d1, d2, d3], vars := [g1, g2, g3, g4, g5] }
  | _ => none }
def FnExactRenameAtWrongFalsely : Prop := fnExactRenameAtRow.holds Tryd.pinned (OpenSpec.ofChange fnExactRenameAtWrong)

/-- 'laws.FnExactCanRename': WHATEVER THE INPUT: true; the input reads as it did. -/
def fnExactCanRenameSpec : ChangeSpec := { name := "fnExactCanRename", vars := ["loop.example/scopegraphs/impl.errScopes", "loop.example/scopegraphs/impl.errItems", "loop.example/scopegraphs/impl.errParent", "loop.example/scopegraphs/impl.errItem", "loop.example/scopegraphs/impl.errModule"], fn := fun _ => fun
  | [d1, d2, d3, g1, g2, g3, g4, g5] => { results := [.lit (.bool true)], args := [d1, d2, d3], vars := [g1, g2, g3, g4, g5] }
  | _ => none }
def fnExactCanRenameRow : OpenClaim := { program := "ytimcobenmgbciaadoor", sum := "b6d6d88d556bd599cdba8a5b1713a8d4a960803a2f4d4374a4bf59d658d38c22", func := "loop.example/scopegraphs/laws.FnExactCanRename", spec := "fnExactCanRename", unfollowed := true, recurses := true, named := ["loop.example/scopegraphs/impl.errScopes", "loop.example/scopegraphs/impl.errItems", "loop.example/scopegraphs/impl.errParent", "loop.example/scopegraphs/impl.errItem", "loop.example/scopegraphs/impl.errModule"], ifaces := true, plainKeys := false, apart := false, laid := [("loop.example/scopegraphs/impl.errScopes", laid_loop_example_scopegraphs_impl_errScopes), ("loop.example/scopegraphs/impl.errParent", laid_loop_example_scopegraphs_impl_errParent), ("loop.example/scopegraphs/impl.errItems", laid_loop_example_scopegraphs_impl_errItems), ("loop.example/scopegraphs/impl.errItem", laid_loop_example_scopegraphs_impl_errItem), ("loop.example/scopegraphs/impl.errModule", laid_loop_example_scopegraphs_impl_errModule)] }
def FnExactCanRenameSaid : Prop := fnExactCanRenameRow.holds Tryd.pinned (OpenSpec.ofChange fnExactCanRenameSpec)

/-- ITS FALSE NEIGHBOUR: 'it returns false'. Refute it at one input. -/
def fnExactCanRenameWrong : ChangeSpec := { name := "fnExactCanRename", vars := ["loop.example/scopegraphs/impl.errScopes", "loop.example/scopegraphs/impl.errItems", "loop.example/scopegraphs/impl.errParent", "loop.example/scopegraphs/impl.errItem", "loop.example/scopegraphs/impl.errModule"], fn := fun _ => fun
  | [d1, d2, d3, g1, g2, g3, g4, g5] => { results := [.lit (.bool false)], args := [d1, d2, d3], vars := [g1, g2, g3, g4, g5] }
  | _ => none }
def FnExactCanRenameWrongFalsely : Prop := fnExactCanRenameRow.holds Tryd.pinned (OpenSpec.ofChange fnExactCanRenameWrong)

/-- 'laws.FnExactSwapNames': WHATEVER THE INPUT: true; the input reads as it did. -/
def fnExactSwapNamesSpec : ChangeSpec := { name := "fnExactSwapNames", vars := ["loop.example/scopegraphs/impl.errScopes", "loop.example/scopegraphs/impl.errItems", "loop.example/scopegraphs/impl.errParent", "loop.example/scopegraphs/impl.errItem", "loop.example/scopegraphs/impl.errModule"], fn := fun _ => fun
  | [d1, d2, d3, g1, g2, g3, g4, g5] => { results := [.lit (.bool true)], args := [d1, d2, d3], vars := [g1, g2, g3, g4, g5] }
  | _ => none }
def fnExactSwapNamesRow : OpenClaim := { program := "ytimcobenmgbciaadoor", sum := "b6d6d88d556bd599cdba8a5b1713a8d4a960803a2f4d4374a4bf59d658d38c22", func := "loop.example/scopegraphs/laws.FnExactSwapNames", spec := "fnExactSwapNames", unfollowed := true, recurses := true, named := ["loop.example/scopegraphs/impl.errScopes", "loop.example/scopegraphs/impl.errItems", "loop.example/scopegraphs/impl.errParent", "loop.example/scopegraphs/impl.errItem", "loop.example/scopegraphs/impl.errModule"], ifaces := true, plainKeys := false, apart := false, laid := [("loop.example/scopegraphs/impl.errScopes", laid_loop_example_scopegraphs_impl_errScopes), ("loop.example/scopegraphs/impl.errParent", laid_loop_example_scopegraphs_impl_errParent), ("loop.example/scopegraphs/impl.errItems", laid_loop_example_scopegraphs_impl_errItems), ("loop.example/scopegraphs/impl.errItem", laid_loop_example_scopegraphs_impl_errItem), ("loop.example/scopegraphs/impl.errModule", laid_loop_example_scopegraphs_impl_errModule)] }
def FnExactSwapNamesSaid : Prop := fnExactSwapNamesRow.holds Tryd.pinned (OpenSpec.ofChange fnExactSwapNamesSpec)

/-- ITS FALSE NEIGHBOUR: 'it returns false'. Refute it at one input. -/
def fnExactSwapNamesWrong : ChangeSpec := { name := "fnExactSwapNames", vars := ["loop.example/scopegraphs/impl.errScopes", "loop.example/scopegraphs/impl.errItems", "loop.example/scopegraphs/impl.errParent", "loop.example/scopegraphs/impl.errItem", "loop.example/scopegraphs/impl.errModule"], fn := fun _ => fun
  | [d1, d2, d3, g1, g2, g3, g4, g5] => { results := [.lit (.bool false)], args := [d1, d2, d3], vars := [g1, g2, g3, g4, g5] }
  | _ => none }
def FnExactSwapNamesWrongFalsely : Prop := fnExactSwapNamesRow.holds Tryd.pinned (OpenSpec.ofChange fnExactSwapNamesWrong)

/-- 'laws.FnExactSameTable': WHATEVER THE INPUT: true; the input reads as it did. -/
def fnExactSameTableSpec : ChangeSpec := { name := "fnExactSameTable", vars := ["loop.example/scopegraphs/impl.errScopes", "loop.example/scopegraphs/impl.errItems", "loop.example/scopegraphs/impl.errParent", "loop.example/scopegraphs/impl.errItem", "loop.example/scopegraphs/impl.errModule"], fn := fun _ => fun
  | [d1, d2, g1, g2, g3, g4, g5] => { results := [.lit (.bool true)], args := [d1, d2], vars := [g1, g2, g3, g4, g5] }
  | _ => none }
def fnExactSameTableRow : OpenClaim := { program := "ytimcobenmgbciaadoor", sum := "b6d6d88d556bd599cdba8a5b1713a8d4a960803a2f4d4374a4bf59d658d38c22", func := "loop.example/scopegraphs/laws.FnExactSameTable", spec := "fnExactSameTable", unfollowed := true, recurses := true, named := ["loop.example/scopegraphs/impl.errScopes", "loop.example/scopegraphs/impl.errItems", "loop.example/scopegraphs/impl.errParent", "loop.example/scopegraphs/impl.errItem", "loop.example/scopegraphs/impl.errModule"], ifaces := true, plainKeys := false, apart := false, laid := [("loop.example/scopegraphs/impl.errScopes", laid_loop_example_scopegraphs_impl_errScopes), ("loop.example/scopegraphs/impl.errParent", laid_loop_example_scopegraphs_impl_errParent), ("loop.example/scopegraphs/impl.errItems", laid_loop_example_scopegraphs_impl_errItems), ("loop.example/scopegraphs/impl.errItem", laid_loop_example_scopegraphs_impl_errItem), ("loop.example/scopegraphs/impl.errModule", laid_loop_example_scopegraphs_impl_errModule)] }
def FnExactSameTableSaid : Prop := fnExactSameTableRow.holds Tryd.pinned (OpenSpec.ofChange fnExactSameTableSpec)

/-- ITS FALSE NEIGHBOUR: 'it returns false'. Refute it at one input. -/
def fnExactSameTableWrong : ChangeSpec := { name := "fnExactSameTable", vars := ["loop.example/scopegraphs/impl.errScopes", "loop.example/scopegraphs/impl.errItems", "loop.example/scopegraphs/impl.errParent", "loop.example/scopegraphs/impl.errItem", "loop.example/scopegraphs/impl.errModule"], fn := fun _ => fun
  | [d1, d2, g1, g2, g3, g4, g5] => { results := [.lit (.bool false)], args := [d1, d2], vars := [g1, g2, g3, g4, g5] }
  | _ => none }
def FnExactSameTableWrongFalsely : Prop := fnExactSameTableRow.holds Tryd.pinned (OpenSpec.ofChange fnExactSameTableWrong)

/-- 'laws.FnExactSameShape': WHATEVER THE INPUT: true; the input reads as it did. -/
def fnExactSameShapeSpec : ChangeSpec := { name := "fnExactSameShape", vars := ["loop.example/scopegraphs/impl.errScopes", "loop.example/scopegraphs/impl.errItems", "loop.example/scopegraphs/impl.errParent", "loop.example/scopegraphs/impl.errItem", "loop.example/scopegraphs/impl.errModule"], fn := fun _ => fun
  | [d1, d2, g1, g2, g3, g4, g5] => { results := [.lit (.bool true)], args := [d1, d2], vars := [g1, g2, g3, g4, g5] }
  | _ => none }
def fnExactSameShapeRow : OpenClaim := { program := "ytimcobenmgbciaadoor", sum := "b6d6d88d556bd599cdba8a5b1713a8d4a960803a2f4d4374a4bf59d658d38c22", func := "loop.example/scopegraphs/laws.FnExactSameShape", spec := "fnExactSameShape", unfollowed := true, recurses := true, named := ["loop.example/scopegraphs/impl.errScopes", "loop.example/scopegraphs/impl.errItems", "loop.example/scopegraphs/impl.errParent", "loop.example/scopegraphs/impl.errItem", "loop.example/scopegraphs/impl.errModule"], ifaces := true, plainKeys := false, apart := false, laid := [("loop.example/scopegraphs/impl.errScopes", laid_loop_example_scopegraphs_impl_errScopes), ("loop.example/scopegraphs/impl.errParent", laid_loop_example_scopegraphs_impl_errParent), ("loop.example/scopegraphs/impl.errItems", laid_loop_example_scopegraphs_impl_errItems), ("loop.example/scopegraphs/impl.errItem", laid_loop_example_scopegraphs_impl_errItem), ("loop.example/scopegraphs/impl.errModule", laid_loop_example_scopegraphs_impl_errModule)] }
def FnExactSameShapeSaid : Prop := fnExactSameShapeRow.holds Tryd.pinned (OpenSpec.ofChange fnExactSameShapeSpec)

/-- ITS FALSE NEIGHBOUR: 'it returns false'. Refute it at one input. -/
def fnExactSameShapeWrong : ChangeSpec := { name := "fnExactSameShape", vars := ["loop.example/scopegraphs/impl.errScopes", "loop.example/scopegraphs/impl.errItems", "loop.example/scopegraphs/impl.errParent", "loop.example/scopegraphs/impl.errItem", "loop.example/scopegraphs/impl.errModule"], fn := fun _ => fun
  | [d1, d2, g1, g2, g3, g4, g5] => { results := [.lit (.bool false)], args := [d1, d2], vars := [g1, g2, g3, g4, g5] }
  | _ => none }
def FnExactSameShapeWrongFalsely : Prop := fnExactSameShapeRow.holds Tryd.pinned (OpenSpec.ofChange fnExactSameShapeWrong)

/- THE SECOND FORM. 'bulk': how many values and letters a reading holds, each counted each time it is reached (what is shared counts as often as it is met; a slice's spare places count too). A statement '..UptoSaid' is the law's where the arguments, and the package variables that the reading takes, are together of bulk at most 1048576: NARROWER than '..Said'. Prove '..Said' where nothing that the law and all that it calls make is longer than what came in: it says more and counts as full. Else prove '..UptoSaid'. A law counts once. -/
mutual
def uptoBulk {H : Type} : DataW H → Nat
  | .lit (.string bytes) => bytes.length + 1
  | .lit _ => 1
  | .nil => 1
  | .ptr d => uptoBulk d + 1
  | .slice elems spare => uptoBulkAll elems + uptoBulkAll spare + 1
  | .agg parts => uptoBulkAll parts + 1
  | .iface _ d => uptoBulk d + 1
  | .map entries => uptoBulkEntries entries + 1
  | .held _ => 1
def uptoBulkAll {H : Type} : List (DataW H) → Nat
  | [] => 0
  | d :: r => uptoBulk d + uptoBulkAll r
def uptoBulkEntries {H : Type} : List (Lit × DataW H) → Nat
  | [] => 0
  | x :: r => uptoBulkEntry x + uptoBulkEntries r
def uptoBulkEntry {H : Type} : Lit × DataW H → Nat
  | (.string bytes, d) => bytes.length + uptoBulk d + 1
  | (_, d) => uptoBulk d + 1
 end
def uptoSmall : (H : Type) → List (DataW H) → Bool := fun _ ds => decide (uptoBulkAll ds ≤ 1048576)
def OpenSpec.upto (s : _root_.Go.ChangeSpec) : _root_.Go.OpenSpec := { _root_.Go.OpenSpec.ofChange s with cond := some uptoSmall }

/-- 'laws.FnResolve', WHERE WHAT IT READS IS OF BULK AT MOST 1048576: true; the input reads as it did. -/
def fnResolveUptoRow : OpenClaim := { program := "ytimcobenmgbciaadoor", sum := "b6d6d88d556bd599cdba8a5b1713a8d4a960803a2f4d4374a4bf59d658d38c22", func := "loop.example/scopegraphs/laws.FnResolve", spec := "fnResolve", unfollowed := true, recurses := true, named := ["loop.example/scopegraphs/impl.errScopes", "loop.example/scopegraphs/impl.errItems", "loop.example/scopegraphs/impl.errParent", "loop.example/scopegraphs/impl.errItem", "loop.example/scopegraphs/impl.errModule", "loop.example/scopegraphs/impl.stateWords", "loop.example/scopegraphs/impl.errName", "loop.example/scopegraphs/impl.errNoScope"], ifaces := true, plainKeys := false, apart := false, laid := [("loop.example/scopegraphs/impl.errScopes", laid_loop_example_scopegraphs_impl_errScopes), ("loop.example/scopegraphs/impl.errParent", laid_loop_example_scopegraphs_impl_errParent), ("loop.example/scopegraphs/impl.errItems", laid_loop_example_scopegraphs_impl_errItems), ("loop.example/scopegraphs/impl.errItem", laid_loop_example_scopegraphs_impl_errItem), ("loop.example/scopegraphs/impl.errModule", laid_loop_example_scopegraphs_impl_errModule), ("loop.example/scopegraphs/impl.errNoScope", laid_loop_example_scopegraphs_impl_errNoScope), ("loop.example/scopegraphs/impl.errName", laid_loop_example_scopegraphs_impl_errName), ("loop.example/scopegraphs/impl.stateWords", laid_loop_example_scopegraphs_impl_stateWords)], narrowed := true }
def FnResolveUptoSaid : Prop := fnResolveUptoRow.holds Tryd.pinned (OpenSpec.upto fnResolveSpec)

/-- 'laws.FnChangedBy', WHERE WHAT IT READS IS OF BULK AT MOST 1048576: true; the input reads as it did. -/
def fnChangedByUptoRow : OpenClaim := { program := "ytimcobenmgbciaadoor", sum := "b6d6d88d556bd599cdba8a5b1713a8d4a960803a2f4d4374a4bf59d658d38c22", func := "loop.example/scopegraphs/laws.FnChangedBy", spec := "fnChangedBy", unfollowed := true, recurses := true, named := ["loop.example/scopegraphs/impl.errScopes", "loop.example/scopegraphs/impl.errItems", "loop.example/scopegraphs/impl.errParent", "loop.example/scopegraphs/impl.errItem", "loop.example/scopegraphs/impl.errModule"], ifaces := true, plainKeys := false, apart := false, laid := [("loop.example/scopegraphs/impl.errScopes", laid_loop_example_scopegraphs_impl_errScopes), ("loop.example/scopegraphs/impl.errParent", laid_loop_example_scopegraphs_impl_errParent), ("loop.example/scopegraphs/impl.errItems", laid_loop_example_scopegraphs_impl_errItems), ("loop.example/scopegraphs/impl.errItem", laid_loop_example_scopegraphs_impl_errItem), ("loop.example/scopegraphs/impl.errModule", laid_loop_example_scopegraphs_impl_errModule)], narrowed := true }
def FnChangedByUptoSaid : Prop := fnChangedByUptoRow.holds Tryd.pinned (OpenSpec.upto fnChangedBySpec)

/-- 'laws.FnExactUsersOf', WHERE WHAT IT READS IS OF BULK AT MOST 1048576: true; the input reads as it did. -/
def fnExactUsersOfUptoRow : OpenClaim := { program := "ytimcobenmgbciaadoor", sum := "b6d6d88d556bd599cdba8a5b1713a8d4a960803a2f4d4374a4bf59d658d38c22", func := "loop.example/scopegraphs/laws.FnExactUsersOf", spec := "fnExactUsersOf", unfollowed := true, recurses := true, named := ["loop.example/scopegraphs/impl.errScopes", "loop.example/scopegraphs/impl.errItems", "loop.example/scopegraphs/impl.errParent", "loop.example/scopegraphs/impl.errItem", "loop.example/scopegraphs/impl.errModule"], ifaces := true, plainKeys := false, apart := false, laid := [("loop.example/scopegraphs/impl.errScopes", laid_loop_example_scopegraphs_impl_errScopes), ("loop.example/scopegraphs/impl.errParent", laid_loop_example_scopegraphs_impl_errParent), ("loop.example/scopegraphs/impl.errItems", laid_loop_example_scopegraphs_impl_errItems), ("loop.example/scopegraphs/impl.errItem", laid_loop_example_scopegraphs_impl_errItem), ("loop.example/scopegraphs/impl.errModule", laid_loop_example_scopegraphs_impl_errModule)], narrowed := true }
def FnExactUsersOfUptoSaid : Prop := fnExactUsersOfUptoRow.holds Tryd.pinned (OpenSpec.upto fnExactUsersOfSpec)

/-- 'laws.FnExactRemoveUnused', WHERE WHAT IT READS IS OF BULK AT MOST 1048576: true; the input reads as it did. -/
def fnExactRemoveUnusedUptoRow : OpenClaim := { program := "ytimcobenmgbciaadoor", sum := "b6d6d88d556bd599cdba8a5b1713a8d4a960803a2f4d4374a4bf59d658d38c22", func := "loop.example/scopegraphs/laws.FnExactRemoveUnused", spec := "fnExactRemoveUnused", unfollowed := true, recurses := true, named := ["loop.example/scopegraphs/impl.errScopes", "loop.example/scopegraphs/impl.errItems", "loop.example/scopegraphs/impl.errParent", "loop.example/scopegraphs/impl.errItem", "loop.example/scopegraphs/impl.errModule"], ifaces := true, plainKeys := false, apart := false, laid := [("loop.example/scopegraphs/impl.errScopes", laid_loop_example_scopegraphs_impl_errScopes), ("loop.example/scopegraphs/impl.errParent", laid_loop_example_scopegraphs_impl_errParent), ("loop.example/scopegraphs/impl.errItems", laid_loop_example_scopegraphs_impl_errItems), ("loop.example/scopegraphs/impl.errItem", laid_loop_example_scopegraphs_impl_errItem), ("loop.example/scopegraphs/impl.errModule", laid_loop_example_scopegraphs_impl_errModule)], narrowed := true }
def FnExactRemoveUnusedUptoSaid : Prop := fnExactRemoveUnusedUptoRow.holds Tryd.pinned (OpenSpec.upto fnExactRemoveUnusedSpec)

/-- 'laws.FnExactRenameAt', WHERE WHAT IT READS IS OF BULK AT MOST 1048576: true; the input reads as it did. -/
def fnExactRenameAtUptoRow : OpenClaim := { program := "ytimcobenmgbciaadoor", sum := "b6d6d88d556bd599cdba8a5b1713a8d4a960803a2f4d4374a4bf59d658d38c22", func := "loop.example/scopegraphs/laws.FnExactRenameAt", spec := "fnExactRenameAt", unfollowed := true, recurses := true, named := ["loop.example/scopegraphs/impl.errScopes", "loop.example/scopegraphs/impl.errItems", "loop.example/scopegraphs/impl.errParent", "loop.example/scopegraphs/impl.errItem", "loop.example/scopegraphs/impl.errModule"], ifaces := true, plainKeys := false, apart := false, laid := [("loop.example/scopegraphs/impl.errScopes", laid_loop_example_scopegraphs_impl_errScopes), ("loop.example/scopegraphs/impl.errParent", laid_loop_example_scopegraphs_impl_errParent), ("loop.example/scopegraphs/impl.errItems", laid_loop_example_scopegraphs_impl_errItems), ("loop.example/scopegraphs/impl.errItem", laid_loop_example_scopegraphs_impl_errItem), ("loop.example/scopegraphs/impl.errModule", laid_loop_example_scopegraphs_impl_errModule)], narrowed := true }
def FnExactRenameAtUptoSaid : Prop := fnExactRenameAtUptoRow.holds Tryd.pinned (OpenSpec.upto fnExactRenameAtSpec)

/-- 'laws.FnExactCanRename', WHERE WHAT IT READS IS OF BULK AT MOST 1048576: true; the input reads as it did. -/
def fnExactCanRenameUptoRow : OpenClaim := { program := "ytimcobenmgbciaadoor", sum := "b6d6d88d556bd599cdba8a5b1713a8d4a960803a2f4d4374a4bf59d658d38c22", func := "loop.example/scopegraphs/laws.FnExactCanRename", spec := "fnExactCanRename", unfollowed := true, recurses := true, named := ["loop.example/scopegraphs/impl.errScopes", "loop.example/scopegraphs/impl.errItems", "loop.example/scopegraphs/impl.errParent", "loop.example/scopegraphs/impl.errItem", "loop.example/scopegraphs/impl.errModule"], ifaces := true, plainKeys := false, apart := false, laid := [("loop.example/scopegraphs/impl.errScopes", laid_loop_example_scopegraphs_impl_errScopes), ("loop.example/scopegraphs/impl.errParent", laid_loop_example_scopegraphs_impl_errParent), ("loop.example/scopegraphs/impl.errItems", laid_loop_example_scopegraphs_impl_errItems), ("loop.example/scopegraphs/impl.errItem", laid_loop_example_scopegraphs_impl_errItem), ("loop.example/scopegraphs/impl.errModule", laid_loop_example_scopegraphs_impl_errModule)], narrowed := true }
def FnExactCanRenameUptoSaid : Prop := fnExactCanRenameUptoRow.holds Tryd.pinned (OpenSpec.upto fnExactCanRenameSpec)

/-- 'laws.FnExactSwapNames', WHERE WHAT IT READS IS OF BULK AT MOST 1048576: true; the input reads as it did. -/
def fnExactSwapNamesUptoRow : OpenClaim := { program := "ytimcobenmgbciaadoor", sum := "b6d6d88d556bd599cdba8a5b1713a8d4a960803a2f4d4374a4bf59d658d38c22", func := "loop.example/scopegraphs/laws.FnExactSwapNames", spec := "fnExactSwapNames", unfollowed := true, recurses := true, named := ["loop.example/scopegraphs/impl.errScopes", "loop.example/scopegraphs/impl.errItems", "loop.example/scopegraphs/impl.errParent", "loop.example/scopegraphs/impl.errItem", "loop.example/scopegraphs/impl.errModule"], ifaces := true, plainKeys := false, apart := false, laid := [("loop.example/scopegraphs/impl.errScopes", laid_loop_example_scopegraphs_impl_errScopes), ("loop.example/scopegraphs/impl.errParent", laid_loop_example_scopegraphs_impl_errParent), ("loop.example/scopegraphs/impl.errItems", laid_loop_example_scopegraphs_impl_errItems), ("loop.example/scopegraphs/impl.errItem", laid_loop_example_scopegraphs_impl_errItem), ("loop.example/scopegraphs/impl.errModule", laid_loop_example_scopegraphs_impl_errModule)], narrowed := true }
def FnExactSwapNamesUptoSaid : Prop := fnExactSwapNamesUptoRow.holds Tryd.pinned (OpenSpec.upto fnExactSwapNamesSpec)

/-- 'laws.FnExactSameTable', WHERE WHAT IT READS IS OF BULK AT MOST 1048576: true; the input reads as it did. -/
def fnExactSameTableUptoRow : OpenClaim := { program := "ytimcobenmgbciaadoor", sum := "b6d6d88d556bd599cdba8a5b1713a8d4a960803a2f4d4374a4bf59d658d38c22", func := "loop.example/scopegraphs/laws.FnExactSameTable", spec := "fnExactSameTable", unfollowed := true, recurses := true, named := ["loop.example/scopegraphs/impl.errScopes", "loop.example/scopegraphs/impl.errItems", "loop.example/scopegraphs/impl.errParent", "loop.example/scopegraphs/impl.errItem", "loop.example/scopegraphs/impl.errModule"], ifaces := true, plainKeys := false, apart := false, laid := [("loop.example/scopegraphs/impl.errScopes", laid_loop_example_scopegraphs_impl_errScopes), ("loop.example/scopegraphs/impl.errParent", laid_loop_example_scopegraphs_impl_errParent), ("loop.example/scopegraphs/impl.errItems", laid_loop_example_scopegraphs_impl_errItems), ("loop.example/scopegraphs/impl.errItem", laid_loop_example_scopegraphs_impl_errItem), ("loop.example/scopegraphs/impl.errModule", laid_loop_example_scopegraphs_impl_errModule)], narrowed := true }
def FnExactSameTableUptoSaid : Prop := fnExactSameTableUptoRow.holds Tryd.pinned (OpenSpec.upto fnExactSameTableSpec)

/-- 'laws.FnExactSameShape', WHERE WHAT IT READS IS OF BULK AT MOST 1048576: true; the input reads as it did. -/
def fnExactSameShapeUptoRow : OpenClaim := { program := "ytimcobenmgbciaadoor", sum := "b6d6d88d556bd599cdba8a5b1713a8d4a960803a2f4d4374a4bf59d658d38c22", func := "loop.example/scopegraphs/laws.FnExactSameShape", spec := "fnExactSameShape", unfollowed := true, recurses := true, named := ["loop.example/scopegraphs/impl.errScopes", "loop.example/scopegraphs/impl.errItems", "loop.example/scopegraphs/impl.errParent", "loop.example/scopegraphs/impl.errItem", "loop.example/scopegraphs/impl.errModule"], ifaces := true, plainKeys := false, apart := false, laid := [("loop.example/scopegraphs/impl.errScopes", laid_loop_example_scopegraphs_impl_errScopes), ("loop.example/scopegraphs/impl.errParent", laid_loop_example_scopegraphs_impl_errParent), ("loop.example/scopegraphs/impl.errItems", laid_loop_example_scopegraphs_impl_errItems), ("loop.example/scopegraphs/impl.errItem", laid_loop_example_scopegraphs_impl_errItem), ("loop.example/scopegraphs/impl.errModule", laid_loop_example_scopegraphs_impl_errModule)], narrowed := true }
def FnExactSameShapeUptoSaid : Prop := fnExactSameShapeUptoRow.holds Tryd.pinned (OpenSpec.upto fnExactSameShapeSpec)

end Rows
end Go.Proofs.YtimcobenmgbciaaDoor
