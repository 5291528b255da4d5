/-
  DERIVED. GIVEN WITH THE SEED: THE PROGRAM's TIES (one call each: nine closed facts by the kernel) AND EACH ROW's TIE, after the 31st guide's Derived/Test/Toyas{Tie, Card}.lean. No idea stands in it: it is a product of the set-up. Laid BY PROGRAM, IN A SANDBOX (cutbox-door.mjs). By AI agents, Wed Nov 11 2026. No macro, syntax, notation, axiom, sorry.
-/
import Derived.Test.YtdmaaneilfjfcaaDoorRows
import Derived.LaidByTextLater
import Derived.SevenTiedAt
import Derived.LaidSub
import Derived.LaidOnce
namespace Go.Proofs.YtdmaaneilfjfcaaDoor
open Go
set_option maxRecDepth 100000
theorem seatTie1 : Tryd.prog.laidByTextLater [("math/bits.deBruijn32tab", Rows.laid_math_bits_deBruijn32tab), ("math/bits.deBruijn64tab", Rows.laid_math_bits_deBruijn64tab), ("internal/strconv.uint64pow10", Rows.laid_internal_strconv_uint64pow10), ("loop.example/scopegraphs/impl.errScopes", Rows.laid_loop_example_scopegraphs_impl_errScopes), ("loop.example/scopegraphs/impl.errParent", Rows.laid_loop_example_scopegraphs_impl_errParent), ("loop.example/scopegraphs/impl.errItems", Rows.laid_loop_example_scopegraphs_impl_errItems), ("loop.example/scopegraphs/impl.errItem", Rows.laid_loop_example_scopegraphs_impl_errItem), ("loop.example/scopegraphs/impl.errModule", Rows.laid_loop_example_scopegraphs_impl_errModule), ("loop.example/scopegraphs/impl.errSeveral", Rows.laid_loop_example_scopegraphs_impl_errSeveral), ("loop.example/scopegraphs/impl.errNaming", Rows.laid_loop_example_scopegraphs_impl_errNaming)] [.data, .data, .data, .sentinel, .sentinel, .sentinel, .sentinel, .sentinel, .sentinel, .sentinel] true :=
  Program.laidByTextLater_by_one 157 8 65 (by kernel_rfl) (by kernel_rfl) (by kernel_rfl) (by kernel_rfl) (by kernel_rfl) (by kernel_rfl) (fun _ _ => by kernel_rfl)
theorem noOwnUnsafe : Tryd.pinned.checked.prog.headLifts.contains "ownunsafe" = false := by kernel_rfl
theorem tie : Tryd.prog.laidByTextLater [("loop.example/scopegraphs/impl.errScopes", Rows.laid_loop_example_scopegraphs_impl_errScopes), ("loop.example/scopegraphs/impl.errParent", Rows.laid_loop_example_scopegraphs_impl_errParent), ("loop.example/scopegraphs/impl.errItems", Rows.laid_loop_example_scopegraphs_impl_errItems), ("loop.example/scopegraphs/impl.errItem", Rows.laid_loop_example_scopegraphs_impl_errItem), ("loop.example/scopegraphs/impl.errModule", Rows.laid_loop_example_scopegraphs_impl_errModule)] [.sentinel, .sentinel, .sentinel, .sentinel, .sentinel] true :=
  Program.laidByTextLater.sub seatTie1 ["loop.example/scopegraphs/impl.errScopes", "loop.example/scopegraphs/impl.errParent", "loop.example/scopegraphs/impl.errItems", "loop.example/scopegraphs/impl.errItem", "loop.example/scopegraphs/impl.errModule"] (by kernel_rfl) (by kernel_rfl)
theorem fnOwnNames_row_tie : Rows.fnOwnNamesRow.laidByTextAt .later Tryd.pinned [.sentinel, .sentinel, .sentinel, .sentinel, .sentinel] true :=
  OpenClaim.laidByTextAt_later rfl rfl tie noOwnUnsafe
theorem fnExactIsFresh_row_tie : Rows.fnExactIsFreshRow.laidByTextAt .later Tryd.pinned [.sentinel, .sentinel, .sentinel, .sentinel, .sentinel] true :=
  OpenClaim.laidByTextAt_later rfl rfl tie noOwnUnsafe
theorem fnExactOwnNames_row_tie : Rows.fnExactOwnNamesRow.laidByTextAt .later Tryd.pinned [.sentinel, .sentinel, .sentinel, .sentinel, .sentinel] true :=
  OpenClaim.laidByTextAt_later rfl rfl tie noOwnUnsafe
theorem fnExactCountNames_row_tie : Rows.fnExactCountNamesRow.laidByTextAt .later Tryd.pinned [.sentinel, .sentinel, .sentinel, .sentinel, .sentinel] true :=
  OpenClaim.laidByTextAt_later rfl rfl tie noOwnUnsafe
theorem tie2 : Tryd.prog.laidByTextLater [("math/bits.deBruijn32tab", Rows.laid_math_bits_deBruijn32tab), ("math/bits.deBruijn64tab", Rows.laid_math_bits_deBruijn64tab), ("internal/strconv.uint64pow10", Rows.laid_internal_strconv_uint64pow10), ("loop.example/scopegraphs/impl.errScopes", Rows.laid_loop_example_scopegraphs_impl_errScopes), ("loop.example/scopegraphs/impl.errParent", Rows.laid_loop_example_scopegraphs_impl_errParent), ("loop.example/scopegraphs/impl.errItems", Rows.laid_loop_example_scopegraphs_impl_errItems), ("loop.example/scopegraphs/impl.errItem", Rows.laid_loop_example_scopegraphs_impl_errItem), ("loop.example/scopegraphs/impl.errModule", Rows.laid_loop_example_scopegraphs_impl_errModule)] [.data, .data, .data, .sentinel, .sentinel, .sentinel, .sentinel, .sentinel] true :=
  Program.laidByTextLater.sub seatTie1 ["math/bits.deBruijn32tab", "math/bits.deBruijn64tab", "internal/strconv.uint64pow10", "loop.example/scopegraphs/impl.errScopes", "loop.example/scopegraphs/impl.errParent", "loop.example/scopegraphs/impl.errItems", "loop.example/scopegraphs/impl.errItem", "loop.example/scopegraphs/impl.errModule"] (by kernel_rfl) (by kernel_rfl)
theorem fnExactFormatGraph_row_tie : Rows.fnExactFormatGraphRow.laidByTextAt .later Tryd.pinned [.data, .data, .data, .sentinel, .sentinel, .sentinel, .sentinel, .sentinel] true :=
  OpenClaim.laidByTextAt_later rfl rfl tie2 noOwnUnsafe
theorem tie3 : Tryd.prog.laidByTextLater [("loop.example/scopegraphs/impl.errScopes", Rows.laid_loop_example_scopegraphs_impl_errScopes), ("loop.example/scopegraphs/impl.errParent", Rows.laid_loop_example_scopegraphs_impl_errParent), ("loop.example/scopegraphs/impl.errItems", Rows.laid_loop_example_scopegraphs_impl_errItems), ("loop.example/scopegraphs/impl.errItem", Rows.laid_loop_example_scopegraphs_impl_errItem), ("loop.example/scopegraphs/impl.errModule", Rows.laid_loop_example_scopegraphs_impl_errModule), ("loop.example/scopegraphs/impl.errSeveral", Rows.laid_loop_example_scopegraphs_impl_errSeveral), ("loop.example/scopegraphs/impl.errNaming", Rows.laid_loop_example_scopegraphs_impl_errNaming)] [.sentinel, .sentinel, .sentinel, .sentinel, .sentinel, .sentinel, .sentinel] true :=
  Program.laidByTextLater.sub seatTie1 ["loop.example/scopegraphs/impl.errScopes", "loop.example/scopegraphs/impl.errParent", "loop.example/scopegraphs/impl.errItems", "loop.example/scopegraphs/impl.errItem", "loop.example/scopegraphs/impl.errModule", "loop.example/scopegraphs/impl.errSeveral", "loop.example/scopegraphs/impl.errNaming"] (by kernel_rfl) (by kernel_rfl)
theorem fnExactFreshGraph_row_tie : Rows.fnExactFreshGraphRow.laidByTextAt .later Tryd.pinned [.sentinel, .sentinel, .sentinel, .sentinel, .sentinel, .sentinel, .sentinel] true :=
  OpenClaim.laidByTextAt_later rfl rfl tie3 noOwnUnsafe
theorem fnExactNamedGraph_row_tie : Rows.fnExactNamedGraphRow.laidByTextAt .later Tryd.pinned [.sentinel, .sentinel, .sentinel, .sentinel, .sentinel, .sentinel, .sentinel] true :=
  OpenClaim.laidByTextAt_later rfl rfl tie3 noOwnUnsafe
theorem fnExactIsGoodNaming_row_tie : Rows.fnExactIsGoodNamingRow.laidByTextAt .later Tryd.pinned [.sentinel, .sentinel, .sentinel, .sentinel, .sentinel, .sentinel, .sentinel] true :=
  OpenClaim.laidByTextAt_later rfl rfl tie3 noOwnUnsafe
theorem fnOwnNamesUpto_row_tie : Rows.fnOwnNamesUptoRow.laidByTextAt .later Tryd.pinned [.sentinel, .sentinel, .sentinel, .sentinel, .sentinel] true :=
  OpenClaim.laidByTextAt_later rfl rfl tie noOwnUnsafe
theorem fnExactFormatGraphUpto_row_tie : Rows.fnExactFormatGraphUptoRow.laidByTextAt .later Tryd.pinned [.data, .data, .data, .sentinel, .sentinel, .sentinel, .sentinel, .sentinel] true :=
  OpenClaim.laidByTextAt_later rfl rfl tie2 noOwnUnsafe
theorem fnExactFreshGraphUpto_row_tie : Rows.fnExactFreshGraphUptoRow.laidByTextAt .later Tryd.pinned [.sentinel, .sentinel, .sentinel, .sentinel, .sentinel, .sentinel, .sentinel] true :=
  OpenClaim.laidByTextAt_later rfl rfl tie3 noOwnUnsafe
theorem fnExactIsFreshUpto_row_tie : Rows.fnExactIsFreshUptoRow.laidByTextAt .later Tryd.pinned [.sentinel, .sentinel, .sentinel, .sentinel, .sentinel] true :=
  OpenClaim.laidByTextAt_later rfl rfl tie noOwnUnsafe
theorem fnExactNamedGraphUpto_row_tie : Rows.fnExactNamedGraphUptoRow.laidByTextAt .later Tryd.pinned [.sentinel, .sentinel, .sentinel, .sentinel, .sentinel, .sentinel, .sentinel] true :=
  OpenClaim.laidByTextAt_later rfl rfl tie3 noOwnUnsafe
theorem fnExactIsGoodNamingUpto_row_tie : Rows.fnExactIsGoodNamingUptoRow.laidByTextAt .later Tryd.pinned [.sentinel, .sentinel, .sentinel, .sentinel, .sentinel, .sentinel, .sentinel] true :=
  OpenClaim.laidByTextAt_later rfl rfl tie3 noOwnUnsafe
theorem fnExactOwnNamesUpto_row_tie : Rows.fnExactOwnNamesUptoRow.laidByTextAt .later Tryd.pinned [.sentinel, .sentinel, .sentinel, .sentinel, .sentinel] true :=
  OpenClaim.laidByTextAt_later rfl rfl tie noOwnUnsafe
theorem fnExactCountNamesUpto_row_tie : Rows.fnExactCountNamesUptoRow.laidByTextAt .later Tryd.pinned [.sentinel, .sentinel, .sentinel, .sentinel, .sentinel] true :=
  OpenClaim.laidByTextAt_later rfl rfl tie noOwnUnsafe
end Go.Proofs.YtdmaaneilfjfcaaDoor
