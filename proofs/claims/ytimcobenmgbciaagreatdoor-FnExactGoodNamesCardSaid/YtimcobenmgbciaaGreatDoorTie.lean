/-
  DERIVED. GIVEN WITH THE SEED: THE PROGRAM's TIES (one call each: nine closed facts by the kernel) AND EACH ROW's TIE, after the 31st guide's Derived/Test/Toyas{Tie, Card}.lean. No idea stands in it: it is a product of the set-up. Laid BY PROGRAM, IN A SANDBOX (cutbox-door.mjs). By AI agents, Wed Nov 11 2026. No macro, syntax, notation, axiom, sorry.
-/
import Derived.Test.YtimcobenmgbciaaGreatDoorRows
import Derived.LaidByTextLater
import Derived.SevenTiedAt
import Derived.LaidSub
import Derived.LaidOnce
namespace Go.Proofs.YtimcobenmgbciaaGreatDoor
open Go
set_option maxRecDepth 100000
theorem seatTie1 : Tryz.prog.laidByTextLater [("loop.example/scopegraphs/impl.errScopes", Rows.laid_loop_example_scopegraphs_impl_errScopes), ("loop.example/scopegraphs/impl.errParent", Rows.laid_loop_example_scopegraphs_impl_errParent), ("loop.example/scopegraphs/impl.errItems", Rows.laid_loop_example_scopegraphs_impl_errItems), ("loop.example/scopegraphs/impl.errItem", Rows.laid_loop_example_scopegraphs_impl_errItem), ("loop.example/scopegraphs/impl.errModule", Rows.laid_loop_example_scopegraphs_impl_errModule), ("loop.example/scopegraphs/impl.errNoDeclaration", Rows.laid_loop_example_scopegraphs_impl_errNoDeclaration)] [.sentinel, .sentinel, .sentinel, .sentinel, .sentinel, .sentinel] true :=
  Program.laidByTextLater_by_one 123 8 2 (by kernel_rfl) (by kernel_rfl) (by kernel_rfl) (by kernel_rfl) (by kernel_rfl) (by kernel_rfl) (fun _ _ => by kernel_rfl)
theorem noOwnUnsafe : Tryz.pinned.checked.prog.headLifts.contains "ownunsafe" = false := by kernel_rfl
theorem tie : Tryz.prog.laidByTextLater [("loop.example/scopegraphs/impl.errScopes", Rows.laid_loop_example_scopegraphs_impl_errScopes), ("loop.example/scopegraphs/impl.errParent", Rows.laid_loop_example_scopegraphs_impl_errParent), ("loop.example/scopegraphs/impl.errItems", Rows.laid_loop_example_scopegraphs_impl_errItems), ("loop.example/scopegraphs/impl.errItem", Rows.laid_loop_example_scopegraphs_impl_errItem), ("loop.example/scopegraphs/impl.errModule", Rows.laid_loop_example_scopegraphs_impl_errModule), ("loop.example/scopegraphs/impl.errNoDeclaration", Rows.laid_loop_example_scopegraphs_impl_errNoDeclaration)] [.sentinel, .sentinel, .sentinel, .sentinel, .sentinel, .sentinel] true :=
  Program.laidByTextLater.sub seatTie1 ["loop.example/scopegraphs/impl.errScopes", "loop.example/scopegraphs/impl.errParent", "loop.example/scopegraphs/impl.errItems", "loop.example/scopegraphs/impl.errItem", "loop.example/scopegraphs/impl.errModule", "loop.example/scopegraphs/impl.errNoDeclaration"] (by kernel_rfl) (by kernel_rfl)
theorem fnExactGoodNames_row_tie : Rows.fnExactGoodNamesRow.laidByTextAt .later Tryz.pinned [.sentinel, .sentinel, .sentinel, .sentinel, .sentinel, .sentinel] true :=
  OpenClaim.laidByTextAt_later rfl rfl tie noOwnUnsafe
theorem tie2 : Tryz.prog.laidByTextLater [("loop.example/scopegraphs/impl.errScopes", Rows.laid_loop_example_scopegraphs_impl_errScopes), ("loop.example/scopegraphs/impl.errParent", Rows.laid_loop_example_scopegraphs_impl_errParent), ("loop.example/scopegraphs/impl.errItems", Rows.laid_loop_example_scopegraphs_impl_errItems), ("loop.example/scopegraphs/impl.errItem", Rows.laid_loop_example_scopegraphs_impl_errItem), ("loop.example/scopegraphs/impl.errModule", Rows.laid_loop_example_scopegraphs_impl_errModule)] [.sentinel, .sentinel, .sentinel, .sentinel, .sentinel] true :=
  Program.laidByTextLater.sub seatTie1 ["loop.example/scopegraphs/impl.errScopes", "loop.example/scopegraphs/impl.errParent", "loop.example/scopegraphs/impl.errItems", "loop.example/scopegraphs/impl.errItem", "loop.example/scopegraphs/impl.errModule"] (by kernel_rfl) (by kernel_rfl)
theorem fnExactRenameChanges_row_tie : Rows.fnExactRenameChangesRow.laidByTextAt .later Tryz.pinned [.sentinel, .sentinel, .sentinel, .sentinel, .sentinel] true :=
  OpenClaim.laidByTextAt_later rfl rfl tie2 noOwnUnsafe
theorem fnExactGoodNamesUpto_row_tie : Rows.fnExactGoodNamesUptoRow.laidByTextAt .later Tryz.pinned [.sentinel, .sentinel, .sentinel, .sentinel, .sentinel, .sentinel] true :=
  OpenClaim.laidByTextAt_later rfl rfl tie noOwnUnsafe
theorem fnExactRenameChangesUpto_row_tie : Rows.fnExactRenameChangesUptoRow.laidByTextAt .later Tryz.pinned [.sentinel, .sentinel, .sentinel, .sentinel, .sentinel] true :=
  OpenClaim.laidByTextAt_later rfl rfl tie2 noOwnUnsafe
end Go.Proofs.YtimcobenmgbciaaGreatDoor
