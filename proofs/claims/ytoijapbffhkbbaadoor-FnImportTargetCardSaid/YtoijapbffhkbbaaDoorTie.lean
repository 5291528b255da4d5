/-
  DERIVED. GIVEN WITH THE SEED: THE PROGRAM's TIES (one call each: nine closed facts by the kernel) AND EACH ROW's TIE, after the 31st guide's Derived/Test/Toyas{Tie, Card}.lean. No idea stands in it: it is a product of the set-up. Laid BY PROGRAM, IN A SANDBOX (cutbox-door.mjs). By AI agents, Wed Nov 11 2026. No macro, syntax, notation, axiom, sorry.
-/
import Derived.Test.YtoijapbffhkbbaaDoorRows
import Derived.LaidByTextLater
import Derived.SevenTiedAt
import Derived.LaidSub
import Derived.LaidOnce
namespace Go.Proofs.YtoijapbffhkbbaaDoor
open Go
set_option maxRecDepth 100000
theorem seatTie1 : Tryd.prog.laidByTextLater [("math/bits.deBruijn32tab", Rows.laid_math_bits_deBruijn32tab), ("math/bits.deBruijn64tab", Rows.laid_math_bits_deBruijn64tab), ("internal/strconv.uint64pow10", Rows.laid_internal_strconv_uint64pow10), ("strconv.ErrRange", Rows.laid_strconv_ErrRange), ("strconv.ErrSyntax", Rows.laid_strconv_ErrSyntax), ("loop.example/scopegraphs/impl.errScopes", Rows.laid_loop_example_scopegraphs_impl_errScopes), ("loop.example/scopegraphs/impl.errParent", Rows.laid_loop_example_scopegraphs_impl_errParent), ("loop.example/scopegraphs/impl.errItems", Rows.laid_loop_example_scopegraphs_impl_errItems), ("loop.example/scopegraphs/impl.errItem", Rows.laid_loop_example_scopegraphs_impl_errItem), ("loop.example/scopegraphs/impl.errModule", Rows.laid_loop_example_scopegraphs_impl_errModule), ("loop.example/scopegraphs/impl.errNumber", Rows.laid_loop_example_scopegraphs_impl_errNumber), ("loop.example/scopegraphs/impl.errNoScope", Rows.laid_loop_example_scopegraphs_impl_errNoScope), ("loop.example/scopegraphs/impl.errName", Rows.laid_loop_example_scopegraphs_impl_errName), ("loop.example/scopegraphs/impl.errNoDeclaration", Rows.laid_loop_example_scopegraphs_impl_errNoDeclaration)] [.data, .data, .data, .sentinel, .sentinel, .sentinel, .sentinel, .sentinel, .sentinel, .sentinel, .sentinel, .sentinel, .sentinel, .sentinel] true :=
  Program.laidByTextLater_by_one 233 8 65 (by kernel_rfl) (by kernel_rfl) (by kernel_rfl) (by kernel_rfl) (by kernel_rfl) (by kernel_rfl) (fun _ _ => by kernel_rfl)
theorem noOwnUnsafe : Tryd.pinned.checked.prog.headLifts.contains "ownunsafe" = false := by kernel_rfl
theorem tie : Tryd.prog.laidByTextLater [("loop.example/scopegraphs/impl.errScopes", Rows.laid_loop_example_scopegraphs_impl_errScopes), ("loop.example/scopegraphs/impl.errParent", Rows.laid_loop_example_scopegraphs_impl_errParent), ("loop.example/scopegraphs/impl.errItems", Rows.laid_loop_example_scopegraphs_impl_errItems), ("loop.example/scopegraphs/impl.errItem", Rows.laid_loop_example_scopegraphs_impl_errItem), ("loop.example/scopegraphs/impl.errModule", Rows.laid_loop_example_scopegraphs_impl_errModule), ("loop.example/scopegraphs/impl.errNoScope", Rows.laid_loop_example_scopegraphs_impl_errNoScope)] [.sentinel, .sentinel, .sentinel, .sentinel, .sentinel, .sentinel] true :=
  Program.laidByTextLater.sub seatTie1 ["loop.example/scopegraphs/impl.errScopes", "loop.example/scopegraphs/impl.errParent", "loop.example/scopegraphs/impl.errItems", "loop.example/scopegraphs/impl.errItem", "loop.example/scopegraphs/impl.errModule", "loop.example/scopegraphs/impl.errNoScope"] (by kernel_rfl) (by kernel_rfl)
theorem fnExactVisibleNames_row_tie : Rows.fnExactVisibleNamesRow.laidByTextAt .later Tryd.pinned [.sentinel, .sentinel, .sentinel, .sentinel, .sentinel, .sentinel] true :=
  OpenClaim.laidByTextAt_later rfl rfl tie noOwnUnsafe
theorem fnExactSeenFrom_row_tie : Rows.fnExactSeenFromRow.laidByTextAt .later Tryd.pinned [.sentinel, .sentinel, .sentinel, .sentinel, .sentinel, .sentinel] true :=
  OpenClaim.laidByTextAt_later rfl rfl tie noOwnUnsafe
theorem fnExactHiddenFrom_row_tie : Rows.fnExactHiddenFromRow.laidByTextAt .later Tryd.pinned [.sentinel, .sentinel, .sentinel, .sentinel, .sentinel, .sentinel] true :=
  OpenClaim.laidByTextAt_later rfl rfl tie noOwnUnsafe
theorem fnExactFreeNames_row_tie : Rows.fnExactFreeNamesRow.laidByTextAt .later Tryd.pinned [.sentinel, .sentinel, .sentinel, .sentinel, .sentinel, .sentinel] true :=
  OpenClaim.laidByTextAt_later rfl rfl tie noOwnUnsafe
theorem fnExactClashesOf_row_tie : Rows.fnExactClashesOfRow.laidByTextAt .later Tryd.pinned [.sentinel, .sentinel, .sentinel, .sentinel, .sentinel, .sentinel] true :=
  OpenClaim.laidByTextAt_later rfl rfl tie noOwnUnsafe
theorem fnChain_row_tie : Rows.fnChainRow.laidByTextAt .later Tryd.pinned [.sentinel, .sentinel, .sentinel, .sentinel, .sentinel, .sentinel] true :=
  OpenClaim.laidByTextAt_later rfl rfl tie noOwnUnsafe
theorem tie2 : Tryd.prog.laidByTextLater [("loop.example/scopegraphs/impl.errScopes", Rows.laid_loop_example_scopegraphs_impl_errScopes), ("loop.example/scopegraphs/impl.errParent", Rows.laid_loop_example_scopegraphs_impl_errParent), ("loop.example/scopegraphs/impl.errItems", Rows.laid_loop_example_scopegraphs_impl_errItems), ("loop.example/scopegraphs/impl.errItem", Rows.laid_loop_example_scopegraphs_impl_errItem), ("loop.example/scopegraphs/impl.errModule", Rows.laid_loop_example_scopegraphs_impl_errModule), ("loop.example/scopegraphs/impl.errNoDeclaration", Rows.laid_loop_example_scopegraphs_impl_errNoDeclaration)] [.sentinel, .sentinel, .sentinel, .sentinel, .sentinel, .sentinel] true :=
  Program.laidByTextLater.sub seatTie1 ["loop.example/scopegraphs/impl.errScopes", "loop.example/scopegraphs/impl.errParent", "loop.example/scopegraphs/impl.errItems", "loop.example/scopegraphs/impl.errItem", "loop.example/scopegraphs/impl.errModule", "loop.example/scopegraphs/impl.errNoDeclaration"] (by kernel_rfl) (by kernel_rfl)
theorem fnExactHidesOf_row_tie : Rows.fnExactHidesOfRow.laidByTextAt .later Tryd.pinned [.sentinel, .sentinel, .sentinel, .sentinel, .sentinel, .sentinel] true :=
  OpenClaim.laidByTextAt_later rfl rfl tie2 noOwnUnsafe
theorem tie3 : Tryd.prog.laidByTextLater [("loop.example/scopegraphs/impl.errScopes", Rows.laid_loop_example_scopegraphs_impl_errScopes), ("loop.example/scopegraphs/impl.errParent", Rows.laid_loop_example_scopegraphs_impl_errParent), ("loop.example/scopegraphs/impl.errItems", Rows.laid_loop_example_scopegraphs_impl_errItems), ("loop.example/scopegraphs/impl.errItem", Rows.laid_loop_example_scopegraphs_impl_errItem), ("loop.example/scopegraphs/impl.errModule", Rows.laid_loop_example_scopegraphs_impl_errModule), ("loop.example/scopegraphs/impl.errNoScope", Rows.laid_loop_example_scopegraphs_impl_errNoScope), ("loop.example/scopegraphs/impl.errName", Rows.laid_loop_example_scopegraphs_impl_errName)] [.sentinel, .sentinel, .sentinel, .sentinel, .sentinel, .sentinel, .sentinel] true :=
  Program.laidByTextLater.sub seatTie1 ["loop.example/scopegraphs/impl.errScopes", "loop.example/scopegraphs/impl.errParent", "loop.example/scopegraphs/impl.errItems", "loop.example/scopegraphs/impl.errItem", "loop.example/scopegraphs/impl.errModule", "loop.example/scopegraphs/impl.errNoScope", "loop.example/scopegraphs/impl.errName"] (by kernel_rfl) (by kernel_rfl)
theorem fnImported_row_tie : Rows.fnImportedRow.laidByTextAt .later Tryd.pinned [.sentinel, .sentinel, .sentinel, .sentinel, .sentinel, .sentinel, .sentinel] true :=
  OpenClaim.laidByTextAt_later rfl rfl tie3 noOwnUnsafe
theorem fnImportTarget_row_tie : Rows.fnImportTargetRow.laidByTextAt .later Tryd.pinned [.sentinel, .sentinel, .sentinel, .sentinel, .sentinel, .sentinel, .sentinel] true :=
  OpenClaim.laidByTextAt_later rfl rfl tie3 noOwnUnsafe
theorem tie4 : Tryd.prog.laidByTextLater [("math/bits.deBruijn32tab", Rows.laid_math_bits_deBruijn32tab), ("math/bits.deBruijn64tab", Rows.laid_math_bits_deBruijn64tab), ("internal/strconv.uint64pow10", Rows.laid_internal_strconv_uint64pow10), ("loop.example/scopegraphs/impl.errScopes", Rows.laid_loop_example_scopegraphs_impl_errScopes), ("loop.example/scopegraphs/impl.errParent", Rows.laid_loop_example_scopegraphs_impl_errParent), ("loop.example/scopegraphs/impl.errItems", Rows.laid_loop_example_scopegraphs_impl_errItems), ("loop.example/scopegraphs/impl.errItem", Rows.laid_loop_example_scopegraphs_impl_errItem), ("loop.example/scopegraphs/impl.errModule", Rows.laid_loop_example_scopegraphs_impl_errModule)] [.data, .data, .data, .sentinel, .sentinel, .sentinel, .sentinel, .sentinel] true :=
  Program.laidByTextLater.sub seatTie1 ["math/bits.deBruijn32tab", "math/bits.deBruijn64tab", "internal/strconv.uint64pow10", "loop.example/scopegraphs/impl.errScopes", "loop.example/scopegraphs/impl.errParent", "loop.example/scopegraphs/impl.errItems", "loop.example/scopegraphs/impl.errItem", "loop.example/scopegraphs/impl.errModule"] (by kernel_rfl) (by kernel_rfl)
theorem fnExactFormatGraph_row_tie : Rows.fnExactFormatGraphRow.laidByTextAt .later Tryd.pinned [.data, .data, .data, .sentinel, .sentinel, .sentinel, .sentinel, .sentinel] true :=
  OpenClaim.laidByTextAt_later rfl rfl tie4 noOwnUnsafe
theorem tie5 : Tryd.prog.laidByTextLater [("loop.example/scopegraphs/impl.errScopes", Rows.laid_loop_example_scopegraphs_impl_errScopes), ("loop.example/scopegraphs/impl.errParent", Rows.laid_loop_example_scopegraphs_impl_errParent), ("loop.example/scopegraphs/impl.errItems", Rows.laid_loop_example_scopegraphs_impl_errItems), ("loop.example/scopegraphs/impl.errItem", Rows.laid_loop_example_scopegraphs_impl_errItem), ("loop.example/scopegraphs/impl.errModule", Rows.laid_loop_example_scopegraphs_impl_errModule)] [.sentinel, .sentinel, .sentinel, .sentinel, .sentinel] true :=
  Program.laidByTextLater.sub seatTie1 ["loop.example/scopegraphs/impl.errScopes", "loop.example/scopegraphs/impl.errParent", "loop.example/scopegraphs/impl.errItems", "loop.example/scopegraphs/impl.errItem", "loop.example/scopegraphs/impl.errModule"] (by kernel_rfl) (by kernel_rfl)
theorem fnExactNamesOf_row_tie : Rows.fnExactNamesOfRow.laidByTextAt .later Tryd.pinned [.sentinel, .sentinel, .sentinel, .sentinel, .sentinel] true :=
  OpenClaim.laidByTextAt_later rfl rfl tie5 noOwnUnsafe
theorem tie6 : Tryd.prog.laidByTextLater [("math/bits.deBruijn32tab", Rows.laid_math_bits_deBruijn32tab), ("math/bits.deBruijn64tab", Rows.laid_math_bits_deBruijn64tab), ("internal/strconv.uint64pow10", Rows.laid_internal_strconv_uint64pow10), ("strconv.ErrRange", Rows.laid_strconv_ErrRange), ("strconv.ErrSyntax", Rows.laid_strconv_ErrSyntax), ("loop.example/scopegraphs/impl.errScopes", Rows.laid_loop_example_scopegraphs_impl_errScopes), ("loop.example/scopegraphs/impl.errParent", Rows.laid_loop_example_scopegraphs_impl_errParent), ("loop.example/scopegraphs/impl.errItems", Rows.laid_loop_example_scopegraphs_impl_errItems), ("loop.example/scopegraphs/impl.errItem", Rows.laid_loop_example_scopegraphs_impl_errItem), ("loop.example/scopegraphs/impl.errModule", Rows.laid_loop_example_scopegraphs_impl_errModule), ("loop.example/scopegraphs/impl.errNumber", Rows.laid_loop_example_scopegraphs_impl_errNumber)] [.data, .data, .data, .sentinel, .sentinel, .sentinel, .sentinel, .sentinel, .sentinel, .sentinel, .sentinel] true :=
  Program.laidByTextLater.sub seatTie1 ["math/bits.deBruijn32tab", "math/bits.deBruijn64tab", "internal/strconv.uint64pow10", "strconv.ErrRange", "strconv.ErrSyntax", "loop.example/scopegraphs/impl.errScopes", "loop.example/scopegraphs/impl.errParent", "loop.example/scopegraphs/impl.errItems", "loop.example/scopegraphs/impl.errItem", "loop.example/scopegraphs/impl.errModule", "loop.example/scopegraphs/impl.errNumber"] (by kernel_rfl) (by kernel_rfl)
theorem fnExactParseGraph_row_tie : Rows.fnExactParseGraphRow.laidByTextAt .later Tryd.pinned [.data, .data, .data, .sentinel, .sentinel, .sentinel, .sentinel, .sentinel, .sentinel, .sentinel, .sentinel] true :=
  OpenClaim.laidByTextAt_later rfl rfl tie6 noOwnUnsafe
theorem fnExactVisibleNamesUpto_row_tie : Rows.fnExactVisibleNamesUptoRow.laidByTextAt .later Tryd.pinned [.sentinel, .sentinel, .sentinel, .sentinel, .sentinel, .sentinel] true :=
  OpenClaim.laidByTextAt_later rfl rfl tie noOwnUnsafe
theorem fnExactSeenFromUpto_row_tie : Rows.fnExactSeenFromUptoRow.laidByTextAt .later Tryd.pinned [.sentinel, .sentinel, .sentinel, .sentinel, .sentinel, .sentinel] true :=
  OpenClaim.laidByTextAt_later rfl rfl tie noOwnUnsafe
theorem fnExactHiddenFromUpto_row_tie : Rows.fnExactHiddenFromUptoRow.laidByTextAt .later Tryd.pinned [.sentinel, .sentinel, .sentinel, .sentinel, .sentinel, .sentinel] true :=
  OpenClaim.laidByTextAt_later rfl rfl tie noOwnUnsafe
theorem fnExactHidesOfUpto_row_tie : Rows.fnExactHidesOfUptoRow.laidByTextAt .later Tryd.pinned [.sentinel, .sentinel, .sentinel, .sentinel, .sentinel, .sentinel] true :=
  OpenClaim.laidByTextAt_later rfl rfl tie2 noOwnUnsafe
theorem fnExactFreeNamesUpto_row_tie : Rows.fnExactFreeNamesUptoRow.laidByTextAt .later Tryd.pinned [.sentinel, .sentinel, .sentinel, .sentinel, .sentinel, .sentinel] true :=
  OpenClaim.laidByTextAt_later rfl rfl tie noOwnUnsafe
theorem fnExactClashesOfUpto_row_tie : Rows.fnExactClashesOfUptoRow.laidByTextAt .later Tryd.pinned [.sentinel, .sentinel, .sentinel, .sentinel, .sentinel, .sentinel] true :=
  OpenClaim.laidByTextAt_later rfl rfl tie noOwnUnsafe
theorem fnImportedUpto_row_tie : Rows.fnImportedUptoRow.laidByTextAt .later Tryd.pinned [.sentinel, .sentinel, .sentinel, .sentinel, .sentinel, .sentinel, .sentinel] true :=
  OpenClaim.laidByTextAt_later rfl rfl tie3 noOwnUnsafe
theorem fnChainUpto_row_tie : Rows.fnChainUptoRow.laidByTextAt .later Tryd.pinned [.sentinel, .sentinel, .sentinel, .sentinel, .sentinel, .sentinel] true :=
  OpenClaim.laidByTextAt_later rfl rfl tie noOwnUnsafe
theorem fnImportTargetUpto_row_tie : Rows.fnImportTargetUptoRow.laidByTextAt .later Tryd.pinned [.sentinel, .sentinel, .sentinel, .sentinel, .sentinel, .sentinel, .sentinel] true :=
  OpenClaim.laidByTextAt_later rfl rfl tie3 noOwnUnsafe
theorem fnExactFormatGraphUpto_row_tie : Rows.fnExactFormatGraphUptoRow.laidByTextAt .later Tryd.pinned [.data, .data, .data, .sentinel, .sentinel, .sentinel, .sentinel, .sentinel] true :=
  OpenClaim.laidByTextAt_later rfl rfl tie4 noOwnUnsafe
theorem fnExactNamesOfUpto_row_tie : Rows.fnExactNamesOfUptoRow.laidByTextAt .later Tryd.pinned [.sentinel, .sentinel, .sentinel, .sentinel, .sentinel] true :=
  OpenClaim.laidByTextAt_later rfl rfl tie5 noOwnUnsafe
theorem fnExactParseGraphUpto_row_tie : Rows.fnExactParseGraphUptoRow.laidByTextAt .later Tryd.pinned [.data, .data, .data, .sentinel, .sentinel, .sentinel, .sentinel, .sentinel, .sentinel, .sentinel, .sentinel] true :=
  OpenClaim.laidByTextAt_later rfl rfl tie6 noOwnUnsafe
end Go.Proofs.YtoijapbffhkbbaaDoor
