/-
  DERIVED. GIVEN WITH THE SEED: THE PROGRAM's TIES (one call each: nine closed facts by the kernel) AND EACH ROW's TIE, after the 31st guide's Derived/Test/Toyas{Tie, Card}.lean. No idea stands in it: it is a product of the set-up. Laid BY PROGRAM, IN A SANDBOX (cutbox-door.mjs). By AI agents, Wed Nov 11 2026. No macro, syntax, notation, axiom, sorry.
-/
import Derived.Test.YtimcobenmgbciaaDoorRows
import Derived.LaidByTextLater
import Derived.SevenTiedAt
import Derived.LaidSub
import Derived.LaidOnce
namespace Go.Proofs.YtimcobenmgbciaaDoor
open Go
set_option maxRecDepth 100000
theorem seatTie1 : Tryd.prog.laidByTextLater [("loop.example/scopegraphs/impl.errScopes", Rows.laid_loop_example_scopegraphs_impl_errScopes), ("loop.example/scopegraphs/impl.errParent", Rows.laid_loop_example_scopegraphs_impl_errParent), ("loop.example/scopegraphs/impl.errItems", Rows.laid_loop_example_scopegraphs_impl_errItems), ("loop.example/scopegraphs/impl.errItem", Rows.laid_loop_example_scopegraphs_impl_errItem), ("loop.example/scopegraphs/impl.errModule", Rows.laid_loop_example_scopegraphs_impl_errModule), ("loop.example/scopegraphs/impl.errNoScope", Rows.laid_loop_example_scopegraphs_impl_errNoScope), ("loop.example/scopegraphs/impl.errName", Rows.laid_loop_example_scopegraphs_impl_errName), ("loop.example/scopegraphs/impl.stateWords", Rows.laid_loop_example_scopegraphs_impl_stateWords)] [.sentinel, .sentinel, .sentinel, .sentinel, .sentinel, .sentinel, .sentinel, .data] true :=
  Program.laidByTextLater_by_one 147 8 6 (by kernel_rfl) (by kernel_rfl) (by kernel_rfl) (by kernel_rfl) (by kernel_rfl) (by kernel_rfl) (fun _ _ => by kernel_rfl)
theorem noOwnUnsafe : Tryd.pinned.checked.prog.headLifts.contains "ownunsafe" = false := by kernel_rfl
theorem tie : Tryd.prog.laidByTextLater [("loop.example/scopegraphs/impl.errScopes", Rows.laid_loop_example_scopegraphs_impl_errScopes), ("loop.example/scopegraphs/impl.errParent", Rows.laid_loop_example_scopegraphs_impl_errParent), ("loop.example/scopegraphs/impl.errItems", Rows.laid_loop_example_scopegraphs_impl_errItems), ("loop.example/scopegraphs/impl.errItem", Rows.laid_loop_example_scopegraphs_impl_errItem), ("loop.example/scopegraphs/impl.errModule", Rows.laid_loop_example_scopegraphs_impl_errModule), ("loop.example/scopegraphs/impl.errNoScope", Rows.laid_loop_example_scopegraphs_impl_errNoScope), ("loop.example/scopegraphs/impl.errName", Rows.laid_loop_example_scopegraphs_impl_errName), ("loop.example/scopegraphs/impl.stateWords", Rows.laid_loop_example_scopegraphs_impl_stateWords)] [.sentinel, .sentinel, .sentinel, .sentinel, .sentinel, .sentinel, .sentinel, .data] true :=
  Program.laidByTextLater.sub seatTie1 ["loop.example/scopegraphs/impl.errScopes", "loop.example/scopegraphs/impl.errParent", "loop.example/scopegraphs/impl.errItems", "loop.example/scopegraphs/impl.errItem", "loop.example/scopegraphs/impl.errModule", "loop.example/scopegraphs/impl.errNoScope", "loop.example/scopegraphs/impl.errName", "loop.example/scopegraphs/impl.stateWords"] (by kernel_rfl) (by kernel_rfl)
theorem fnResolve_row_tie : Rows.fnResolveRow.laidByTextAt .later Tryd.pinned [.sentinel, .sentinel, .sentinel, .sentinel, .sentinel, .sentinel, .sentinel, .data] true :=
  OpenClaim.laidByTextAt_later rfl rfl tie noOwnUnsafe
theorem tie2 : Tryd.prog.laidByTextLater [("loop.example/scopegraphs/impl.errScopes", Rows.laid_loop_example_scopegraphs_impl_errScopes), ("loop.example/scopegraphs/impl.errParent", Rows.laid_loop_example_scopegraphs_impl_errParent), ("loop.example/scopegraphs/impl.errItems", Rows.laid_loop_example_scopegraphs_impl_errItems), ("loop.example/scopegraphs/impl.errItem", Rows.laid_loop_example_scopegraphs_impl_errItem), ("loop.example/scopegraphs/impl.errModule", Rows.laid_loop_example_scopegraphs_impl_errModule)] [.sentinel, .sentinel, .sentinel, .sentinel, .sentinel] true :=
  Program.laidByTextLater.sub seatTie1 ["loop.example/scopegraphs/impl.errScopes", "loop.example/scopegraphs/impl.errParent", "loop.example/scopegraphs/impl.errItems", "loop.example/scopegraphs/impl.errItem", "loop.example/scopegraphs/impl.errModule"] (by kernel_rfl) (by kernel_rfl)
theorem fnChangedBy_row_tie : Rows.fnChangedByRow.laidByTextAt .later Tryd.pinned [.sentinel, .sentinel, .sentinel, .sentinel, .sentinel] true :=
  OpenClaim.laidByTextAt_later rfl rfl tie2 noOwnUnsafe
theorem fnExactUsersOf_row_tie : Rows.fnExactUsersOfRow.laidByTextAt .later Tryd.pinned [.sentinel, .sentinel, .sentinel, .sentinel, .sentinel] true :=
  OpenClaim.laidByTextAt_later rfl rfl tie2 noOwnUnsafe
theorem fnExactRemoveUnused_row_tie : Rows.fnExactRemoveUnusedRow.laidByTextAt .later Tryd.pinned [.sentinel, .sentinel, .sentinel, .sentinel, .sentinel] true :=
  OpenClaim.laidByTextAt_later rfl rfl tie2 noOwnUnsafe
theorem fnExactRenameAt_row_tie : Rows.fnExactRenameAtRow.laidByTextAt .later Tryd.pinned [.sentinel, .sentinel, .sentinel, .sentinel, .sentinel] true :=
  OpenClaim.laidByTextAt_later rfl rfl tie2 noOwnUnsafe
theorem fnExactCanRename_row_tie : Rows.fnExactCanRenameRow.laidByTextAt .later Tryd.pinned [.sentinel, .sentinel, .sentinel, .sentinel, .sentinel] true :=
  OpenClaim.laidByTextAt_later rfl rfl tie2 noOwnUnsafe
theorem fnExactSwapNames_row_tie : Rows.fnExactSwapNamesRow.laidByTextAt .later Tryd.pinned [.sentinel, .sentinel, .sentinel, .sentinel, .sentinel] true :=
  OpenClaim.laidByTextAt_later rfl rfl tie2 noOwnUnsafe
theorem fnExactSameTable_row_tie : Rows.fnExactSameTableRow.laidByTextAt .later Tryd.pinned [.sentinel, .sentinel, .sentinel, .sentinel, .sentinel] true :=
  OpenClaim.laidByTextAt_later rfl rfl tie2 noOwnUnsafe
theorem fnExactSameShape_row_tie : Rows.fnExactSameShapeRow.laidByTextAt .later Tryd.pinned [.sentinel, .sentinel, .sentinel, .sentinel, .sentinel] true :=
  OpenClaim.laidByTextAt_later rfl rfl tie2 noOwnUnsafe
theorem fnResolveUpto_row_tie : Rows.fnResolveUptoRow.laidByTextAt .later Tryd.pinned [.sentinel, .sentinel, .sentinel, .sentinel, .sentinel, .sentinel, .sentinel, .data] true :=
  OpenClaim.laidByTextAt_later rfl rfl tie noOwnUnsafe
theorem fnChangedByUpto_row_tie : Rows.fnChangedByUptoRow.laidByTextAt .later Tryd.pinned [.sentinel, .sentinel, .sentinel, .sentinel, .sentinel] true :=
  OpenClaim.laidByTextAt_later rfl rfl tie2 noOwnUnsafe
theorem fnExactUsersOfUpto_row_tie : Rows.fnExactUsersOfUptoRow.laidByTextAt .later Tryd.pinned [.sentinel, .sentinel, .sentinel, .sentinel, .sentinel] true :=
  OpenClaim.laidByTextAt_later rfl rfl tie2 noOwnUnsafe
theorem fnExactRemoveUnusedUpto_row_tie : Rows.fnExactRemoveUnusedUptoRow.laidByTextAt .later Tryd.pinned [.sentinel, .sentinel, .sentinel, .sentinel, .sentinel] true :=
  OpenClaim.laidByTextAt_later rfl rfl tie2 noOwnUnsafe
theorem fnExactRenameAtUpto_row_tie : Rows.fnExactRenameAtUptoRow.laidByTextAt .later Tryd.pinned [.sentinel, .sentinel, .sentinel, .sentinel, .sentinel] true :=
  OpenClaim.laidByTextAt_later rfl rfl tie2 noOwnUnsafe
theorem fnExactCanRenameUpto_row_tie : Rows.fnExactCanRenameUptoRow.laidByTextAt .later Tryd.pinned [.sentinel, .sentinel, .sentinel, .sentinel, .sentinel] true :=
  OpenClaim.laidByTextAt_later rfl rfl tie2 noOwnUnsafe
theorem fnExactSwapNamesUpto_row_tie : Rows.fnExactSwapNamesUptoRow.laidByTextAt .later Tryd.pinned [.sentinel, .sentinel, .sentinel, .sentinel, .sentinel] true :=
  OpenClaim.laidByTextAt_later rfl rfl tie2 noOwnUnsafe
theorem fnExactSameTableUpto_row_tie : Rows.fnExactSameTableUptoRow.laidByTextAt .later Tryd.pinned [.sentinel, .sentinel, .sentinel, .sentinel, .sentinel] true :=
  OpenClaim.laidByTextAt_later rfl rfl tie2 noOwnUnsafe
theorem fnExactSameShapeUpto_row_tie : Rows.fnExactSameShapeUptoRow.laidByTextAt .later Tryd.pinned [.sentinel, .sentinel, .sentinel, .sentinel, .sentinel] true :=
  OpenClaim.laidByTextAt_later rfl rfl tie2 noOwnUnsafe
end Go.Proofs.YtimcobenmgbciaaDoor
