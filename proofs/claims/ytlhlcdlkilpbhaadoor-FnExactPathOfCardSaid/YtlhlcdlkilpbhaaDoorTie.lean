/-
  DERIVED. GIVEN WITH THE SEED: THE PROGRAM's TIES (one call each: nine closed facts by the kernel) AND EACH ROW's TIE, after the 31st guide's Derived/Test/Toyas{Tie, Card}.lean. No idea stands in it: it is a product of the set-up. Laid BY PROGRAM, IN A SANDBOX (cutbox-door.mjs). By AI agents, Wed Nov 11 2026. No macro, syntax, notation, axiom, sorry.
-/
import Derived.Test.YtlhlcdlkilpbhaaDoorRows
import Derived.LaidByTextLater
import Derived.SevenTiedAt
import Derived.LaidSub
import Derived.LaidOnce
namespace Go.Proofs.YtlhlcdlkilpbhaaDoor
open Go
set_option maxRecDepth 100000
theorem seatTie1 : Tryd.prog.laidByTextLater [("loop.example/scopegraphs/impl.errScopes", Rows.laid_loop_example_scopegraphs_impl_errScopes), ("loop.example/scopegraphs/impl.errParent", Rows.laid_loop_example_scopegraphs_impl_errParent), ("loop.example/scopegraphs/impl.errItems", Rows.laid_loop_example_scopegraphs_impl_errItems), ("loop.example/scopegraphs/impl.errItem", Rows.laid_loop_example_scopegraphs_impl_errItem), ("loop.example/scopegraphs/impl.errModule", Rows.laid_loop_example_scopegraphs_impl_errModule), ("loop.example/scopegraphs/impl.errNoScope", Rows.laid_loop_example_scopegraphs_impl_errNoScope), ("loop.example/scopegraphs/impl.errName", Rows.laid_loop_example_scopegraphs_impl_errName)] [.sentinel, .sentinel, .sentinel, .sentinel, .sentinel, .sentinel, .sentinel] true :=
  Program.laidByTextLater_by_one 142 8 2 (by kernel_rfl) (by kernel_rfl) (by kernel_rfl) (by kernel_rfl) (by kernel_rfl) (by kernel_rfl) (fun _ _ => by kernel_rfl)
theorem noOwnUnsafe : Tryd.pinned.checked.prog.headLifts.contains "ownunsafe" = false := by kernel_rfl
theorem tie : Tryd.prog.laidByTextLater [("loop.example/scopegraphs/impl.errScopes", Rows.laid_loop_example_scopegraphs_impl_errScopes), ("loop.example/scopegraphs/impl.errParent", Rows.laid_loop_example_scopegraphs_impl_errParent), ("loop.example/scopegraphs/impl.errItems", Rows.laid_loop_example_scopegraphs_impl_errItems), ("loop.example/scopegraphs/impl.errItem", Rows.laid_loop_example_scopegraphs_impl_errItem), ("loop.example/scopegraphs/impl.errModule", Rows.laid_loop_example_scopegraphs_impl_errModule)] [.sentinel, .sentinel, .sentinel, .sentinel, .sentinel] true :=
  Program.laidByTextLater.sub seatTie1 ["loop.example/scopegraphs/impl.errScopes", "loop.example/scopegraphs/impl.errParent", "loop.example/scopegraphs/impl.errItems", "loop.example/scopegraphs/impl.errItem", "loop.example/scopegraphs/impl.errModule"] (by kernel_rfl) (by kernel_rfl)
theorem fnExactItemAt_row_tie : Rows.fnExactItemAtRow.laidByTextAt .later Tryd.pinned [.sentinel, .sentinel, .sentinel, .sentinel, .sentinel] true :=
  OpenClaim.laidByTextAt_later rfl rfl tie noOwnUnsafe
theorem fnExactPlacesOf_row_tie : Rows.fnExactPlacesOfRow.laidByTextAt .later Tryd.pinned [.sentinel, .sentinel, .sentinel, .sentinel, .sentinel] true :=
  OpenClaim.laidByTextAt_later rfl rfl tie noOwnUnsafe
theorem fnExactImportTarget_row_tie : Rows.fnExactImportTargetRow.laidByTextAt .later Tryd.pinned [.sentinel, .sentinel, .sentinel, .sentinel, .sentinel] true :=
  OpenClaim.laidByTextAt_later rfl rfl tie noOwnUnsafe
theorem tie2 : Tryd.prog.laidByTextLater [("loop.example/scopegraphs/impl.errScopes", Rows.laid_loop_example_scopegraphs_impl_errScopes), ("loop.example/scopegraphs/impl.errParent", Rows.laid_loop_example_scopegraphs_impl_errParent), ("loop.example/scopegraphs/impl.errItems", Rows.laid_loop_example_scopegraphs_impl_errItems), ("loop.example/scopegraphs/impl.errItem", Rows.laid_loop_example_scopegraphs_impl_errItem), ("loop.example/scopegraphs/impl.errModule", Rows.laid_loop_example_scopegraphs_impl_errModule), ("loop.example/scopegraphs/impl.errNoScope", Rows.laid_loop_example_scopegraphs_impl_errNoScope)] [.sentinel, .sentinel, .sentinel, .sentinel, .sentinel, .sentinel] true :=
  Program.laidByTextLater.sub seatTie1 ["loop.example/scopegraphs/impl.errScopes", "loop.example/scopegraphs/impl.errParent", "loop.example/scopegraphs/impl.errItems", "loop.example/scopegraphs/impl.errItem", "loop.example/scopegraphs/impl.errModule", "loop.example/scopegraphs/impl.errNoScope"] (by kernel_rfl) (by kernel_rfl)
theorem fnExactWithinOf_row_tie : Rows.fnExactWithinOfRow.laidByTextAt .later Tryd.pinned [.sentinel, .sentinel, .sentinel, .sentinel, .sentinel, .sentinel] true :=
  OpenClaim.laidByTextAt_later rfl rfl tie2 noOwnUnsafe
theorem fnExactCommonScope_row_tie : Rows.fnExactCommonScopeRow.laidByTextAt .later Tryd.pinned [.sentinel, .sentinel, .sentinel, .sentinel, .sentinel, .sentinel] true :=
  OpenClaim.laidByTextAt_later rfl rfl tie2 noOwnUnsafe
theorem fnExactModuleOf_row_tie : Rows.fnExactModuleOfRow.laidByTextAt .later Tryd.pinned [.sentinel, .sentinel, .sentinel, .sentinel, .sentinel, .sentinel] true :=
  OpenClaim.laidByTextAt_later rfl rfl tie2 noOwnUnsafe
theorem fnExactBlocksOf_row_tie : Rows.fnExactBlocksOfRow.laidByTextAt .later Tryd.pinned [.sentinel, .sentinel, .sentinel, .sentinel, .sentinel, .sentinel] true :=
  OpenClaim.laidByTextAt_later rfl rfl tie2 noOwnUnsafe
theorem fnExactPathOf_row_tie : Rows.fnExactPathOfRow.laidByTextAt .later Tryd.pinned [.sentinel, .sentinel, .sentinel, .sentinel, .sentinel, .sentinel] true :=
  OpenClaim.laidByTextAt_later rfl rfl tie2 noOwnUnsafe
theorem fnExactImportedScopes_row_tie : Rows.fnExactImportedScopesRow.laidByTextAt .later Tryd.pinned [.sentinel, .sentinel, .sentinel, .sentinel, .sentinel, .sentinel] true :=
  OpenClaim.laidByTextAt_later rfl rfl tie2 noOwnUnsafe
theorem tie3 : Tryd.prog.laidByTextLater [("loop.example/scopegraphs/impl.errScopes", Rows.laid_loop_example_scopegraphs_impl_errScopes), ("loop.example/scopegraphs/impl.errParent", Rows.laid_loop_example_scopegraphs_impl_errParent), ("loop.example/scopegraphs/impl.errItems", Rows.laid_loop_example_scopegraphs_impl_errItems), ("loop.example/scopegraphs/impl.errItem", Rows.laid_loop_example_scopegraphs_impl_errItem), ("loop.example/scopegraphs/impl.errModule", Rows.laid_loop_example_scopegraphs_impl_errModule), ("loop.example/scopegraphs/impl.errNoScope", Rows.laid_loop_example_scopegraphs_impl_errNoScope), ("loop.example/scopegraphs/impl.errName", Rows.laid_loop_example_scopegraphs_impl_errName)] [.sentinel, .sentinel, .sentinel, .sentinel, .sentinel, .sentinel, .sentinel] true :=
  Program.laidByTextLater.sub seatTie1 ["loop.example/scopegraphs/impl.errScopes", "loop.example/scopegraphs/impl.errParent", "loop.example/scopegraphs/impl.errItems", "loop.example/scopegraphs/impl.errItem", "loop.example/scopegraphs/impl.errModule", "loop.example/scopegraphs/impl.errNoScope", "loop.example/scopegraphs/impl.errName"] (by kernel_rfl) (by kernel_rfl)
theorem fnExactOwnOf_row_tie : Rows.fnExactOwnOfRow.laidByTextAt .later Tryd.pinned [.sentinel, .sentinel, .sentinel, .sentinel, .sentinel, .sentinel, .sentinel] true :=
  OpenClaim.laidByTextAt_later rfl rfl tie3 noOwnUnsafe
theorem fnExactImportedOf_row_tie : Rows.fnExactImportedOfRow.laidByTextAt .later Tryd.pinned [.sentinel, .sentinel, .sentinel, .sentinel, .sentinel, .sentinel, .sentinel] true :=
  OpenClaim.laidByTextAt_later rfl rfl tie3 noOwnUnsafe
theorem fnExactLookUp_row_tie : Rows.fnExactLookUpRow.laidByTextAt .later Tryd.pinned [.sentinel, .sentinel, .sentinel, .sentinel, .sentinel, .sentinel, .sentinel] true :=
  OpenClaim.laidByTextAt_later rfl rfl tie3 noOwnUnsafe
theorem fnExactItemAtUpto_row_tie : Rows.fnExactItemAtUptoRow.laidByTextAt .later Tryd.pinned [.sentinel, .sentinel, .sentinel, .sentinel, .sentinel] true :=
  OpenClaim.laidByTextAt_later rfl rfl tie noOwnUnsafe
theorem fnExactPlacesOfUpto_row_tie : Rows.fnExactPlacesOfUptoRow.laidByTextAt .later Tryd.pinned [.sentinel, .sentinel, .sentinel, .sentinel, .sentinel] true :=
  OpenClaim.laidByTextAt_later rfl rfl tie noOwnUnsafe
theorem fnExactWithinOfUpto_row_tie : Rows.fnExactWithinOfUptoRow.laidByTextAt .later Tryd.pinned [.sentinel, .sentinel, .sentinel, .sentinel, .sentinel, .sentinel] true :=
  OpenClaim.laidByTextAt_later rfl rfl tie2 noOwnUnsafe
theorem fnExactCommonScopeUpto_row_tie : Rows.fnExactCommonScopeUptoRow.laidByTextAt .later Tryd.pinned [.sentinel, .sentinel, .sentinel, .sentinel, .sentinel, .sentinel] true :=
  OpenClaim.laidByTextAt_later rfl rfl tie2 noOwnUnsafe
theorem fnExactModuleOfUpto_row_tie : Rows.fnExactModuleOfUptoRow.laidByTextAt .later Tryd.pinned [.sentinel, .sentinel, .sentinel, .sentinel, .sentinel, .sentinel] true :=
  OpenClaim.laidByTextAt_later rfl rfl tie2 noOwnUnsafe
theorem fnExactBlocksOfUpto_row_tie : Rows.fnExactBlocksOfUptoRow.laidByTextAt .later Tryd.pinned [.sentinel, .sentinel, .sentinel, .sentinel, .sentinel, .sentinel] true :=
  OpenClaim.laidByTextAt_later rfl rfl tie2 noOwnUnsafe
theorem fnExactPathOfUpto_row_tie : Rows.fnExactPathOfUptoRow.laidByTextAt .later Tryd.pinned [.sentinel, .sentinel, .sentinel, .sentinel, .sentinel, .sentinel] true :=
  OpenClaim.laidByTextAt_later rfl rfl tie2 noOwnUnsafe
theorem fnExactOwnOfUpto_row_tie : Rows.fnExactOwnOfUptoRow.laidByTextAt .later Tryd.pinned [.sentinel, .sentinel, .sentinel, .sentinel, .sentinel, .sentinel, .sentinel] true :=
  OpenClaim.laidByTextAt_later rfl rfl tie3 noOwnUnsafe
theorem fnExactImportedScopesUpto_row_tie : Rows.fnExactImportedScopesUptoRow.laidByTextAt .later Tryd.pinned [.sentinel, .sentinel, .sentinel, .sentinel, .sentinel, .sentinel] true :=
  OpenClaim.laidByTextAt_later rfl rfl tie2 noOwnUnsafe
theorem fnExactImportedOfUpto_row_tie : Rows.fnExactImportedOfUptoRow.laidByTextAt .later Tryd.pinned [.sentinel, .sentinel, .sentinel, .sentinel, .sentinel, .sentinel, .sentinel] true :=
  OpenClaim.laidByTextAt_later rfl rfl tie3 noOwnUnsafe
theorem fnExactLookUpUpto_row_tie : Rows.fnExactLookUpUptoRow.laidByTextAt .later Tryd.pinned [.sentinel, .sentinel, .sentinel, .sentinel, .sentinel, .sentinel, .sentinel] true :=
  OpenClaim.laidByTextAt_later rfl rfl tie3 noOwnUnsafe
theorem fnExactImportTargetUpto_row_tie : Rows.fnExactImportTargetUptoRow.laidByTextAt .later Tryd.pinned [.sentinel, .sentinel, .sentinel, .sentinel, .sentinel] true :=
  OpenClaim.laidByTextAt_later rfl rfl tie noOwnUnsafe
end Go.Proofs.YtlhlcdlkilpbhaaDoor
