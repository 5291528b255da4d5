/-
  NARROWER THAN 'FOR EVERY INPUT', by the rows' own cells (each row's printed sentence says how): FnModules: ifaces, laid · FnSeen: ifaces, laid · FnNumbers: laid · FnExactFormatNumbers: laid · FnExactFormatPlaces: laid · FnExactTableOf: ifaces, laid · FnExactIsFresh: ifaces, laid · FnExactCountNames: ifaces, laid · FnOwnNames: ifaces, laid.
  DERIVED. THE GIVEN ROWS OF THIS SEAT. 9 by the template 'for every input the law returns true; each argument reads behind the call as it read before'; 0 by the template 'total and deterministic' (their statements: YtjogfagjcpcihaaDoorTotals.lean).
  GIVEN WITH THE SEED: the statements are not yours to turn. If you find one false, say at which input.
  Laid BY PROGRAM, IN A SANDBOX (cutbox-rows.mjs): the forced cells as the released guide's own fill.sh prints them over the translation 240f493a921fed0b… (all of the seat's roots in one cut). By AI agents, Wed Nov 11 2026. No macro, syntax, notation, axiom, sorry.
-/
import Derived.Test.YtjogfagjcpcihaaDoorChecked
import GoSem.Claim
import GoSem.ClaimJoined
import GoSem.ClaimMapViews
import Derived.JoinedTies
import Derived.KernelRfl
namespace Go.Proofs.YtjogfagjcpcihaaDoor
/- THE CELL 'sum', in the pinned program and in every row, IS THE sha256 OF THE DUMP (.gsa) THAT YtjogfagjcpcihaaDoorProg.lean LOADS. Nothing in Lean hashes anything: it is a label: what it is worth is what the hold of that sum in a sandbox is worth. -/
noncomputable def Tryd.pinned : Pinned := { name := "ytjogfagjcpcihaadoor", sum := "240f493a921fed0b2c0695b01830b1d95ced89011be7934b24b839271d10dc0a", checked := Tryd.checked }
namespace Rows
def none {H : Type} : Left H := { results := [], args := [] }

/- WHAT THE LISTED PACKAGE-LEVEL VARIABLES READ AS WHEN THE CALL BEGINS. Each datum BY PROGRAM (the guide's laid-datum.mjs) off the statement by which the dump's own 'gosem.cut.vars' lays the variable. In a bare row this is a premise. The card (YtjogfagjcpcihaaDoorCards.lean) ties it to the program's text. -/
def laid_loop_example_scopegraphs_impl_errScopes {H : Type} : DataW H := .iface "*errors.errorString" (.ptr (.agg [.lit (.string [97, 32, 103, 114, 97, 112, 104, 32, 104, 97, 115, 32, 49, 32, 116, 111, 32, 77, 97, 120, 83, 99, 111, 112, 101, 115, 32, 115, 99, 111, 112, 101, 115])]))
def laid_loop_example_scopegraphs_impl_errParent {H : Type} : DataW H := .iface "*errors.errorString" (.ptr (.agg [.lit (.string [116, 104, 101, 32, 102, 105, 114, 115, 116, 32, 115, 99, 111, 112, 101, 32, 104, 97, 115, 32, 110, 111, 32, 112, 97, 114, 101, 110, 116, 44, 32, 97, 110, 100, 32, 101, 97, 99, 104, 32, 111, 116, 104, 101, 114, 32, 111, 110, 101, 32, 97, 110, 32, 101, 97, 114, 108, 105, 101, 114, 32, 115, 99, 111, 112, 101])]))
def laid_loop_example_scopegraphs_impl_errItems {H : Type} : DataW H := .iface "*errors.errorString" (.ptr (.agg [.lit (.string [97, 32, 115, 99, 111, 112, 101, 32, 104, 97, 115, 32, 97, 116, 32, 109, 111, 115, 116, 32, 77, 97, 120, 73, 116, 101, 109, 115, 32, 105, 116, 101, 109, 115])]))
def laid_loop_example_scopegraphs_impl_errItem {H : Type} : DataW H := .iface "*errors.errorString" (.ptr (.agg [.lit (.string [97, 110, 32, 105, 116, 101, 109, 32, 104, 97, 115, 32, 111, 110, 101, 32, 111, 102, 32, 116, 104, 114, 101, 101, 32, 107, 105, 110, 100, 115, 32, 97, 110, 100, 32, 111, 110, 101, 32, 108, 101, 116, 116, 101, 114, 32, 97, 115, 32, 105, 116, 115, 32, 110, 97, 109, 101])]))
def laid_loop_example_scopegraphs_impl_errModule {H : Type} : DataW H := .iface "*errors.errorString" (.ptr (.agg [.lit (.string [97, 32, 109, 111, 100, 117, 108, 101, 32, 104, 97, 115, 32, 97, 32, 115, 99, 111, 112, 101, 32, 111, 102, 32, 105, 116, 115, 32, 111, 119, 110, 32, 119, 104, 111, 115, 101, 32, 112, 97, 114, 101, 110, 116, 32, 105, 115, 32, 119, 104, 101, 114, 101, 32, 105, 116, 32, 105, 115, 32, 100, 101, 99, 108, 97, 114, 101, 100])]))
def laid_loop_example_scopegraphs_impl_errNoScope {H : Type} : DataW H := .iface "*errors.errorString" (.ptr (.agg [.lit (.string [116, 104, 101, 32, 103, 114, 97, 112, 104, 32, 104, 97, 115, 32, 110, 111, 32, 115, 117, 99, 104, 32, 115, 99, 111, 112, 101])]))
def laid_loop_example_scopegraphs_impl_errName {H : Type} : DataW H := .iface "*errors.errorString" (.ptr (.agg [.lit (.string [97, 32, 110, 97, 109, 101, 32, 105, 115, 32, 111, 110, 101, 32, 108, 101, 116, 116, 101, 114, 32, 102, 114, 111, 109, 32, 97, 32, 116, 111, 32, 122])]))
def laid_math_bits_deBruijn32tab {H : Type} : DataW H := .agg [.lit (.int .u8 0), .lit (.int .u8 1), .lit (.int .u8 28), .lit (.int .u8 2), .lit (.int .u8 29), .lit (.int .u8 14), .lit (.int .u8 24), .lit (.int .u8 3), .lit (.int .u8 30), .lit (.int .u8 22), .lit (.int .u8 20), .lit (.int .u8 15), .lit (.int .u8 25), .lit (.int .u8 17), .lit (.int .u8 4), .lit (.int .u8 8), .lit (.int .u8 31), .lit (.int .u8 27), .lit (.int .u8 13), .lit (.int .u8 23), .lit (.int .u8 21), .lit (.int .u8 19), .lit (.int .u8 16), .lit (.int .u8 7), .lit (.int .u8 26), .lit (.int .u8 12), .lit (.int .u8 18), .lit (.int .u8 6), .lit (.int .u8 11), .lit (.int .u8 5), .lit (.int .u8 10), .lit (.int .u8 9)]
def laid_math_bits_deBruijn64tab {H : Type} : DataW H := .agg [.lit (.int .u8 0), .lit (.int .u8 1), .lit (.int .u8 56), .lit (.int .u8 2), .lit (.int .u8 57), .lit (.int .u8 49), .lit (.int .u8 28), .lit (.int .u8 3), .lit (.int .u8 61), .lit (.int .u8 58), .lit (.int .u8 42), .lit (.int .u8 50), .lit (.int .u8 38), .lit (.int .u8 29), .lit (.int .u8 17), .lit (.int .u8 4), .lit (.int .u8 62), .lit (.int .u8 47), .lit (.int .u8 59), .lit (.int .u8 36), .lit (.int .u8 45), .lit (.int .u8 43), .lit (.int .u8 51), .lit (.int .u8 22), .lit (.int .u8 53), .lit (.int .u8 39), .lit (.int .u8 33), .lit (.int .u8 30), .lit (.int .u8 24), .lit (.int .u8 18), .lit (.int .u8 12), .lit (.int .u8 5), .lit (.int .u8 63), .lit (.int .u8 55), .lit (.int .u8 48), .lit (.int .u8 27), .lit (.int .u8 60), .lit (.int .u8 41), .lit (.int .u8 37), .lit (.int .u8 16), .lit (.int .u8 46), .lit (.int .u8 35), .lit (.int .u8 44), .lit (.int .u8 21), .lit (.int .u8 52), .lit (.int .u8 32), .lit (.int .u8 23), .lit (.int .u8 11), .lit (.int .u8 54), .lit (.int .u8 26), .lit (.int .u8 40), .lit (.int .u8 15), .lit (.int .u8 34), .lit (.int .u8 20), .lit (.int .u8 31), .lit (.int .u8 10), .lit (.int .u8 25), .lit (.int .u8 14), .lit (.int .u8 19), .lit (.int .u8 9), .lit (.int .u8 13), .lit (.int .u8 8), .lit (.int .u8 7), .lit (.int .u8 6)]
def laid_internal_strconv_uint64pow10 {H : Type} : DataW H := .agg [.lit (.int .u64 1), .lit (.int .u64 10), .lit (.int .u64 100), .lit (.int .u64 1000), .lit (.int .u64 10000), .lit (.int .u64 100000), .lit (.int .u64 1000000), .lit (.int .u64 10000000), .lit (.int .u64 100000000), .lit (.int .u64 1000000000), .lit (.int .u64 10000000000), .lit (.int .u64 100000000000), .lit (.int .u64 1000000000000), .lit (.int .u64 10000000000000), .lit (.int .u64 100000000000000), .lit (.int .u64 1000000000000000), .lit (.int .u64 10000000000000000), .lit (.int .u64 100000000000000000), .lit (.int .u64 1000000000000000000), .lit (.int .u64 10000000000000000000)]

/-- 'laws.FnModules': WHATEVER THE INPUT: true; the input reads as it did. -/
def fnModulesSpec : ChangeSpec := { name := "fnModules", vars := ["loop.example/scopegraphs/impl.errScopes", "loop.example/scopegraphs/impl.errItems", "loop.example/scopegraphs/impl.errParent", "loop.example/scopegraphs/impl.errItem", "loop.example/scopegraphs/impl.errModule", "loop.example/scopegraphs/impl.errNoScope"], fn := fun _ => fun
  | [d, g1, g2, g3, g4, g5, g6] => { results := [.lit (.bool true)], args := [d], vars := [g1, g2, g3, g4, g5, g6] }
  | _ => none }
def fnModulesRow : OpenClaim := { program := "ytjogfagjcpcihaadoor", sum := "240f493a921fed0b2c0695b01830b1d95ced89011be7934b24b839271d10dc0a", func := "loop.example/scopegraphs/laws.FnModules", spec := "fnModules", unfollowed := true, recurses := true, named := ["loop.example/scopegraphs/impl.errScopes", "loop.example/scopegraphs/impl.errItems", "loop.example/scopegraphs/impl.errParent", "loop.example/scopegraphs/impl.errItem", "loop.example/scopegraphs/impl.errModule", "loop.example/scopegraphs/impl.errNoScope"], ifaces := true, plainKeys := false, apart := false, laid := [("loop.example/scopegraphs/impl.errScopes", laid_loop_example_scopegraphs_impl_errScopes), ("loop.example/scopegraphs/impl.errParent", laid_loop_example_scopegraphs_impl_errParent), ("loop.example/scopegraphs/impl.errItems", laid_loop_example_scopegraphs_impl_errItems), ("loop.example/scopegraphs/impl.errItem", laid_loop_example_scopegraphs_impl_errItem), ("loop.example/scopegraphs/impl.errModule", laid_loop_example_scopegraphs_impl_errModule), ("loop.example/scopegraphs/impl.errNoScope", laid_loop_example_scopegraphs_impl_errNoScope)] }
def FnModulesSaid : Prop := fnModulesRow.holds Tryd.pinned (OpenSpec.ofChange fnModulesSpec)

/-- ITS FALSE NEIGHBOUR: 'it returns false'. Refute it at one input. -/
def fnModulesWrong : ChangeSpec := { name := "fnModules", vars := ["loop.example/scopegraphs/impl.errScopes", "loop.example/scopegraphs/impl.errItems", "loop.example/scopegraphs/impl.errParent", "loop.example/scopegraphs/impl.errItem", "loop.example/scopegraphs/impl.errModule", "loop.example/scopegraphs/impl.errNoScope"], fn := fun _ => fun
  | [d, g1, g2, g3, g4, g5, g6] => { results := [.lit (.bool false)], args := [d], vars := [g1, g2, g3, g4, g5, g6] }
  | _ => none }
def FnModulesWrongFalsely : Prop := fnModulesRow.holds Tryd.pinned (OpenSpec.ofChange fnModulesWrong)

/-- 'laws.FnSeen': WHATEVER THE INPUT: true; the input reads as it did. -/
def fnSeenSpec : ChangeSpec := { name := "fnSeen", vars := ["loop.example/scopegraphs/impl.errScopes", "loop.example/scopegraphs/impl.errItems", "loop.example/scopegraphs/impl.errParent", "loop.example/scopegraphs/impl.errItem", "loop.example/scopegraphs/impl.errModule", "loop.example/scopegraphs/impl.errNoScope", "loop.example/scopegraphs/impl.errName"], fn := fun _ => fun
  | [d, g1, g2, g3, g4, g5, g6, g7] => { results := [.lit (.bool true)], args := [d], vars := [g1, g2, g3, g4, g5, g6, g7] }
  | _ => none }
def fnSeenRow : OpenClaim := { program := "ytjogfagjcpcihaadoor", sum := "240f493a921fed0b2c0695b01830b1d95ced89011be7934b24b839271d10dc0a", func := "loop.example/scopegraphs/laws.FnSeen", spec := "fnSeen", unfollowed := true, recurses := true, named := ["loop.example/scopegraphs/impl.errScopes", "loop.example/scopegraphs/impl.errItems", "loop.example/scopegraphs/impl.errParent", "loop.example/scopegraphs/impl.errItem", "loop.example/scopegraphs/impl.errModule", "loop.example/scopegraphs/impl.errNoScope", "loop.example/scopegraphs/impl.errName"], ifaces := true, plainKeys := false, apart := false, laid := [("loop.example/scopegraphs/impl.errScopes", laid_loop_example_scopegraphs_impl_errScopes), ("loop.example/scopegraphs/impl.errParent", laid_loop_example_scopegraphs_impl_errParent), ("loop.example/scopegraphs/impl.errItems", laid_loop_example_scopegraphs_impl_errItems), ("loop.example/scopegraphs/impl.errItem", laid_loop_example_scopegraphs_impl_errItem), ("loop.example/scopegraphs/impl.errModule", laid_loop_example_scopegraphs_impl_errModule), ("loop.example/scopegraphs/impl.errNoScope", laid_loop_example_scopegraphs_impl_errNoScope), ("loop.example/scopegraphs/impl.errName", laid_loop_example_scopegraphs_impl_errName)] }
def FnSeenSaid : Prop := fnSeenRow.holds Tryd.pinned (OpenSpec.ofChange fnSeenSpec)

/-- ITS FALSE NEIGHBOUR: 'it returns false'. Refute it at one input. -/
def fnSeenWrong : ChangeSpec := { name := "fnSeen", vars := ["loop.example/scopegraphs/impl.errScopes", "loop.example/scopegraphs/impl.errItems", "loop.example/scopegraphs/impl.errParent", "loop.example/scopegraphs/impl.errItem", "loop.example/scopegraphs/impl.errModule", "loop.example/scopegraphs/impl.errNoScope", "loop.example/scopegraphs/impl.errName"], fn := fun _ => fun
  | [d, g1, g2, g3, g4, g5, g6, g7] => { results := [.lit (.bool false)], args := [d], vars := [g1, g2, g3, g4, g5, g6, g7] }
  | _ => none }
def FnSeenWrongFalsely : Prop := fnSeenRow.holds Tryd.pinned (OpenSpec.ofChange fnSeenWrong)

/-- 'laws.FnNumbers': WHATEVER THE INPUT: true; the input reads as it did. -/
def fnNumbersSpec : ChangeSpec := { name := "fnNumbers", fn := fun _ => fun
  | [d1, d2] => { results := [.lit (.bool true)], args := [d1, d2] }
  | _ => none }
def fnNumbersRow : OpenClaim := { program := "ytjogfagjcpcihaadoor", sum := "240f493a921fed0b2c0695b01830b1d95ced89011be7934b24b839271d10dc0a", func := "loop.example/scopegraphs/laws.FnNumbers", spec := "fnNumbers", inPlace := ["internal/abi.NoEscape", "internal/bytealg.MakeNoZero"], unfollowed := true, recurses := true, named := ["internal/strconv.uint64pow10", "math/bits.deBruijn32tab", "math/bits.deBruijn64tab"], plainKeys := false, apart := false, laid := [("math/bits.deBruijn32tab", laid_math_bits_deBruijn32tab), ("math/bits.deBruijn64tab", laid_math_bits_deBruijn64tab), ("internal/strconv.uint64pow10", laid_internal_strconv_uint64pow10)] }
def FnNumbersSaid : Prop := fnNumbersRow.holds Tryd.pinned (OpenSpec.ofChange fnNumbersSpec)

/-- ITS FALSE NEIGHBOUR: 'it returns false'. Refute it at one input. -/
def fnNumbersWrong : ChangeSpec := { name := "fnNumbers", fn := fun _ => fun
  | [d1, d2] => { results := [.lit (.bool false)], args := [d1, d2] }
  | _ => none }
def FnNumbersWrongFalsely : Prop := fnNumbersRow.holds Tryd.pinned (OpenSpec.ofChange fnNumbersWrong)

/-- 'laws.FnExactFormatNumbers': WHATEVER THE INPUT: true; the input reads as it did. -/
def fnExactFormatNumbersSpec : ChangeSpec := { name := "fnExactFormatNumbers", fn := fun _ => fun
  | [d] => { results := [.lit (.bool true)], args := [d] }
  | _ => none }
def fnExactFormatNumbersRow : OpenClaim := { program := "ytjogfagjcpcihaadoor", sum := "240f493a921fed0b2c0695b01830b1d95ced89011be7934b24b839271d10dc0a", func := "loop.example/scopegraphs/laws.FnExactFormatNumbers", spec := "fnExactFormatNumbers", inPlace := ["internal/abi.NoEscape", "internal/bytealg.MakeNoZero"], unfollowed := true, recurses := true, named := ["internal/strconv.uint64pow10", "math/bits.deBruijn32tab", "math/bits.deBruijn64tab"], plainKeys := false, apart := false, laid := [("math/bits.deBruijn32tab", laid_math_bits_deBruijn32tab), ("math/bits.deBruijn64tab", laid_math_bits_deBruijn64tab), ("internal/strconv.uint64pow10", laid_internal_strconv_uint64pow10)] }
def FnExactFormatNumbersSaid : Prop := fnExactFormatNumbersRow.holds Tryd.pinned (OpenSpec.ofChange fnExactFormatNumbersSpec)

/-- ITS FALSE NEIGHBOUR: 'it returns false'. Refute it at one input. -/
def fnExactFormatNumbersWrong : ChangeSpec := { name := "fnExactFormatNumbers", fn := fun _ => fun
  | [d] => { results := [.lit (.bool false)], args := [d] }
  | _ => none }
def FnExactFormatNumbersWrongFalsely : Prop := fnExactFormatNumbersRow.holds Tryd.pinned (OpenSpec.ofChange fnExactFormatNumbersWrong)

/-- 'laws.FnExactFormatPlaces': WHATEVER THE INPUT: true; the input reads as it did. -/
def fnExactFormatPlacesSpec : ChangeSpec := { name := "fnExactFormatPlaces", fn := fun _ => fun
  | [d] => { results := [.lit (.bool true)], args := [d] }
  | _ => none }
def fnExactFormatPlacesRow : OpenClaim := { program := "ytjogfagjcpcihaadoor", sum := "240f493a921fed0b2c0695b01830b1d95ced89011be7934b24b839271d10dc0a", func := "loop.example/scopegraphs/laws.FnExactFormatPlaces", spec := "fnExactFormatPlaces", inPlace := ["internal/abi.NoEscape", "internal/bytealg.MakeNoZero"], unfollowed := true, recurses := true, named := ["internal/strconv.uint64pow10", "math/bits.deBruijn32tab", "math/bits.deBruijn64tab"], plainKeys := false, apart := false, laid := [("math/bits.deBruijn32tab", laid_math_bits_deBruijn32tab), ("math/bits.deBruijn64tab", laid_math_bits_deBruijn64tab), ("internal/strconv.uint64pow10", laid_internal_strconv_uint64pow10)] }
def FnExactFormatPlacesSaid : Prop := fnExactFormatPlacesRow.holds Tryd.pinned (OpenSpec.ofChange fnExactFormatPlacesSpec)

/-- ITS FALSE NEIGHBOUR: 'it returns false'. Refute it at one input. -/
def fnExactFormatPlacesWrong : ChangeSpec := { name := "fnExactFormatPlaces", fn := fun _ => fun
  | [d] => { results := [.lit (.bool false)], args := [d] }
  | _ => none }
def FnExactFormatPlacesWrongFalsely : Prop := fnExactFormatPlacesRow.holds Tryd.pinned (OpenSpec.ofChange fnExactFormatPlacesWrong)

/-- 'laws.FnExactTableOf': WHATEVER THE INPUT: true; the input reads as it did. -/
def fnExactTableOfSpec : ChangeSpec := { name := "fnExactTableOf", vars := ["loop.example/scopegraphs/impl.errScopes", "loop.example/scopegraphs/impl.errItems", "loop.example/scopegraphs/impl.errParent", "loop.example/scopegraphs/impl.errItem", "loop.example/scopegraphs/impl.errModule"], fn := fun _ => fun
  | [d, g1, g2, g3, g4, g5] => { results := [.lit (.bool true)], args := [d], vars := [g1, g2, g3, g4, g5] }
  | _ => none }
def fnExactTableOfRow : OpenClaim := { program := "ytjogfagjcpcihaadoor", sum := "240f493a921fed0b2c0695b01830b1d95ced89011be7934b24b839271d10dc0a", func := "loop.example/scopegraphs/laws.FnExactTableOf", spec := "fnExactTableOf", inPlace := ["internal/abi.NoEscape", "internal/bytealg.MakeNoZero"], unfollowed := true, recurses := true, named := ["loop.example/scopegraphs/impl.errScopes", "loop.example/scopegraphs/impl.errItems", "loop.example/scopegraphs/impl.errParent", "loop.example/scopegraphs/impl.errItem", "loop.example/scopegraphs/impl.errModule", "internal/strconv.uint64pow10", "math/bits.deBruijn32tab", "math/bits.deBruijn64tab"], ifaces := true, plainKeys := false, apart := false, laid := [("math/bits.deBruijn32tab", laid_math_bits_deBruijn32tab), ("math/bits.deBruijn64tab", laid_math_bits_deBruijn64tab), ("internal/strconv.uint64pow10", laid_internal_strconv_uint64pow10), ("loop.example/scopegraphs/impl.errScopes", laid_loop_example_scopegraphs_impl_errScopes), ("loop.example/scopegraphs/impl.errParent", laid_loop_example_scopegraphs_impl_errParent), ("loop.example/scopegraphs/impl.errItems", laid_loop_example_scopegraphs_impl_errItems), ("loop.example/scopegraphs/impl.errItem", laid_loop_example_scopegraphs_impl_errItem), ("loop.example/scopegraphs/impl.errModule", laid_loop_example_scopegraphs_impl_errModule)] }
def FnExactTableOfSaid : Prop := fnExactTableOfRow.holds Tryd.pinned (OpenSpec.ofChange fnExactTableOfSpec)

/-- ITS FALSE NEIGHBOUR: 'it returns false'. Refute it at one input. -/
def fnExactTableOfWrong : ChangeSpec := { name := "fnExactTableOf", vars := ["loop.example/scopegraphs/impl.errScopes", "loop.example/scopegraphs/impl.errItems", "loop.example/scopegraphs/impl.errParent", "loop.example/scopegraphs/impl.errItem", "loop.example/scopegraphs/impl.errModule"], fn := fun _ => fun
  | [d, g1, g2, g3, g4, g5] => { results := [.lit (.bool false)], args := [d], vars := [g1, g2, g3, g4, g5] }
  | _ => none }
def FnExactTableOfWrongFalsely : Prop := fnExactTableOfRow.holds Tryd.pinned (OpenSpec.ofChange fnExactTableOfWrong)

/-- 'laws.FnExactIsFresh': WHATEVER THE INPUT: true; the input reads as it did. -/
def fnExactIsFreshSpec : ChangeSpec := { name := "fnExactIsFresh", vars := ["loop.example/scopegraphs/impl.errScopes", "loop.example/scopegraphs/impl.errItems", "loop.example/scopegraphs/impl.errParent", "loop.example/scopegraphs/impl.errItem", "loop.example/scopegraphs/impl.errModule"], fn := fun _ => fun
  | [d, g1, g2, g3, g4, g5] => { results := [.lit (.bool true)], args := [d], vars := [g1, g2, g3, g4, g5] }
  | _ => none }
def fnExactIsFreshRow : OpenClaim := { program := "ytjogfagjcpcihaadoor", sum := "240f493a921fed0b2c0695b01830b1d95ced89011be7934b24b839271d10dc0a", func := "loop.example/scopegraphs/laws.FnExactIsFresh", spec := "fnExactIsFresh", unfollowed := true, recurses := true, named := ["loop.example/scopegraphs/impl.errScopes", "loop.example/scopegraphs/impl.errItems", "loop.example/scopegraphs/impl.errParent", "loop.example/scopegraphs/impl.errItem", "loop.example/scopegraphs/impl.errModule"], ifaces := true, plainKeys := false, apart := false, laid := [("loop.example/scopegraphs/impl.errScopes", laid_loop_example_scopegraphs_impl_errScopes), ("loop.example/scopegraphs/impl.errParent", laid_loop_example_scopegraphs_impl_errParent), ("loop.example/scopegraphs/impl.errItems", laid_loop_example_scopegraphs_impl_errItems), ("loop.example/scopegraphs/impl.errItem", laid_loop_example_scopegraphs_impl_errItem), ("loop.example/scopegraphs/impl.errModule", laid_loop_example_scopegraphs_impl_errModule)] }
def FnExactIsFreshSaid : Prop := fnExactIsFreshRow.holds Tryd.pinned (OpenSpec.ofChange fnExactIsFreshSpec)

/-- ITS FALSE NEIGHBOUR: 'it returns false'. Refute it at one input. -/
def fnExactIsFreshWrong : ChangeSpec := { name := "fnExactIsFresh", vars := ["loop.example/scopegraphs/impl.errScopes", "loop.example/scopegraphs/impl.errItems", "loop.example/scopegraphs/impl.errParent", "loop.example/scopegraphs/impl.errItem", "loop.example/scopegraphs/impl.errModule"], fn := fun _ => fun
  | [d, g1, g2, g3, g4, g5] => { results := [.lit (.bool false)], args := [d], vars := [g1, g2, g3, g4, g5] }
  | _ => none }
def FnExactIsFreshWrongFalsely : Prop := fnExactIsFreshRow.holds Tryd.pinned (OpenSpec.ofChange fnExactIsFreshWrong)

/-- 'laws.FnExactCountNames': WHATEVER THE INPUT: true; the input reads as it did. -/
def fnExactCountNamesSpec : ChangeSpec := { name := "fnExactCountNames", vars := ["loop.example/scopegraphs/impl.errScopes", "loop.example/scopegraphs/impl.errItems", "loop.example/scopegraphs/impl.errParent", "loop.example/scopegraphs/impl.errItem", "loop.example/scopegraphs/impl.errModule"], fn := fun _ => fun
  | [d, g1, g2, g3, g4, g5] => { results := [.lit (.bool true)], args := [d], vars := [g1, g2, g3, g4, g5] }
  | _ => none }
def fnExactCountNamesRow : OpenClaim := { program := "ytjogfagjcpcihaadoor", sum := "240f493a921fed0b2c0695b01830b1d95ced89011be7934b24b839271d10dc0a", func := "loop.example/scopegraphs/laws.FnExactCountNames", spec := "fnExactCountNames", unfollowed := true, recurses := true, named := ["loop.example/scopegraphs/impl.errScopes", "loop.example/scopegraphs/impl.errItems", "loop.example/scopegraphs/impl.errParent", "loop.example/scopegraphs/impl.errItem", "loop.example/scopegraphs/impl.errModule"], ifaces := true, plainKeys := false, apart := false, laid := [("loop.example/scopegraphs/impl.errScopes", laid_loop_example_scopegraphs_impl_errScopes), ("loop.example/scopegraphs/impl.errParent", laid_loop_example_scopegraphs_impl_errParent), ("loop.example/scopegraphs/impl.errItems", laid_loop_example_scopegraphs_impl_errItems), ("loop.example/scopegraphs/impl.errItem", laid_loop_example_scopegraphs_impl_errItem), ("loop.example/scopegraphs/impl.errModule", laid_loop_example_scopegraphs_impl_errModule)] }
def FnExactCountNamesSaid : Prop := fnExactCountNamesRow.holds Tryd.pinned (OpenSpec.ofChange fnExactCountNamesSpec)

/-- ITS FALSE NEIGHBOUR: 'it returns false'. Refute it at one input. -/
def fnExactCountNamesWrong : ChangeSpec := { name := "fnExactCountNames", vars := ["loop.example/scopegraphs/impl.errScopes", "loop.example/scopegraphs/impl.errItems", "loop.example/scopegraphs/impl.errParent", "loop.example/scopegraphs/impl.errItem", "loop.example/scopegraphs/impl.errModule"], fn := fun _ => fun
  | [d, g1, g2, g3, g4, g5] => { results := [.lit (.bool false)], args := [d], vars := [g1, g2, g3, g4, g5] }
  | _ => none }
def FnExactCountNamesWrongFalsely : Prop := fnExactCountNamesRow.holds Tryd.pinned (OpenSpec.ofChange fnExactCountNamesWrong)

/-- 'laws.FnOwnNames': WHATEVER THE INPUT: true; the input reads as it did. -/
def fnOwnNamesSpec : ChangeSpec := { name := "fnOwnNames", vars := ["loop.example/scopegraphs/impl.errScopes", "loop.example/scopegraphs/impl.errItems", "loop.example/scopegraphs/impl.errParent", "loop.example/scopegraphs/impl.errItem", "loop.example/scopegraphs/impl.errModule"], fn := fun _ => fun
  | [d, g1, g2, g3, g4, g5] => { results := [.lit (.bool true)], args := [d], vars := [g1, g2, g3, g4, g5] }
  | _ => none }
def fnOwnNamesRow : OpenClaim := { program := "ytjogfagjcpcihaadoor", sum := "240f493a921fed0b2c0695b01830b1d95ced89011be7934b24b839271d10dc0a", func := "loop.example/scopegraphs/laws.FnOwnNames", spec := "fnOwnNames", unfollowed := true, recurses := true, named := ["loop.example/scopegraphs/impl.errScopes", "loop.example/scopegraphs/impl.errItems", "loop.example/scopegraphs/impl.errParent", "loop.example/scopegraphs/impl.errItem", "loop.example/scopegraphs/impl.errModule"], ifaces := true, plainKeys := false, apart := false, laid := [("loop.example/scopegraphs/impl.errScopes", laid_loop_example_scopegraphs_impl_errScopes), ("loop.example/scopegraphs/impl.errParent", laid_loop_example_scopegraphs_impl_errParent), ("loop.example/scopegraphs/impl.errItems", laid_loop_example_scopegraphs_impl_errItems), ("loop.example/scopegraphs/impl.errItem", laid_loop_example_scopegraphs_impl_errItem), ("loop.example/scopegraphs/impl.errModule", laid_loop_example_scopegraphs_impl_errModule)] }
def FnOwnNamesSaid : Prop := fnOwnNamesRow.holds Tryd.pinned (OpenSpec.ofChange fnOwnNamesSpec)

/-- ITS FALSE NEIGHBOUR: 'it returns false'. Refute it at one input. -/
def fnOwnNamesWrong : ChangeSpec := { name := "fnOwnNames", vars := ["loop.example/scopegraphs/impl.errScopes", "loop.example/scopegraphs/impl.errItems", "loop.example/scopegraphs/impl.errParent", "loop.example/scopegraphs/impl.errItem", "loop.example/scopegraphs/impl.errModule"], fn := fun _ => fun
  | [d, g1, g2, g3, g4, g5] => { results := [.lit (.bool false)], args := [d], vars := [g1, g2, g3, g4, g5] }
  | _ => none }
def FnOwnNamesWrongFalsely : Prop := fnOwnNamesRow.holds Tryd.pinned (OpenSpec.ofChange fnOwnNamesWrong)

/- THE SECOND FORM. 'bulk': how many values and letters a reading holds, each counted each time it is reached (what is shared counts as often as it is met; a slice's spare places count too). A statement '..UptoSaid' is the law's where the arguments, and the package variables that the reading takes, are together of bulk at most 1048576: NARROWER than '..Said'. Prove '..Said' where nothing that the law and all that it calls make is longer than what came in: it says more and counts as full. Else prove '..UptoSaid'. A law counts once. -/
mutual
def uptoBulk {H : Type} : DataW H → Nat
  | .lit (.string bytes) => bytes.length + 1
  | .lit _ => 1
  | .nil => 1
  | .ptr d => uptoBulk d + 1
  | .slice elems spare => uptoBulkAll elems + uptoBulkAll spare + 1
  | .agg parts => uptoBulkAll parts + 1
  | .iface _ d => uptoBulk d + 1
  | .map entries => uptoBulkEntries entries + 1
  | .held _ => 1
def uptoBulkAll {H : Type} : List (DataW H) → Nat
  | [] => 0
  | d :: r => uptoBulk d + uptoBulkAll r
def uptoBulkEntries {H : Type} : List (Lit × DataW H) → Nat
  | [] => 0
  | x :: r => uptoBulkEntry x + uptoBulkEntries r
def uptoBulkEntry {H : Type} : Lit × DataW H → Nat
  | (.string bytes, d) => bytes.length + uptoBulk d + 1
  | (_, d) => uptoBulk d + 1
 end
def uptoSmall : (H : Type) → List (DataW H) → Bool := fun _ ds => decide (uptoBulkAll ds ≤ 1048576)
def OpenSpec.upto (s : _root_.Go.ChangeSpec) : _root_.Go.OpenSpec := { _root_.Go.OpenSpec.ofChange s with cond := some uptoSmall }

/-- 'laws.FnModules', WHERE WHAT IT READS IS OF BULK AT MOST 1048576: true; the input reads as it did. -/
def fnModulesUptoRow : OpenClaim := { program := "ytjogfagjcpcihaadoor", sum := "240f493a921fed0b2c0695b01830b1d95ced89011be7934b24b839271d10dc0a", func := "loop.example/scopegraphs/laws.FnModules", spec := "fnModules", unfollowed := true, recurses := true, named := ["loop.example/scopegraphs/impl.errScopes", "loop.example/scopegraphs/impl.errItems", "loop.example/scopegraphs/impl.errParent", "loop.example/scopegraphs/impl.errItem", "loop.example/scopegraphs/impl.errModule", "loop.example/scopegraphs/impl.errNoScope"], ifaces := true, plainKeys := false, apart := false, laid := [("loop.example/scopegraphs/impl.errScopes", laid_loop_example_scopegraphs_impl_errScopes), ("loop.example/scopegraphs/impl.errParent", laid_loop_example_scopegraphs_impl_errParent), ("loop.example/scopegraphs/impl.errItems", laid_loop_example_scopegraphs_impl_errItems), ("loop.example/scopegraphs/impl.errItem", laid_loop_example_scopegraphs_impl_errItem), ("loop.example/scopegraphs/impl.errModule", laid_loop_example_scopegraphs_impl_errModule), ("loop.example/scopegraphs/impl.errNoScope", laid_loop_example_scopegraphs_impl_errNoScope)], narrowed := true }
def FnModulesUptoSaid : Prop := fnModulesUptoRow.holds Tryd.pinned (OpenSpec.upto fnModulesSpec)

/-- 'laws.FnSeen', WHERE WHAT IT READS IS OF BULK AT MOST 1048576: true; the input reads as it did. -/
def fnSeenUptoRow : OpenClaim := { program := "ytjogfagjcpcihaadoor", sum := "240f493a921fed0b2c0695b01830b1d95ced89011be7934b24b839271d10dc0a", func := "loop.example/scopegraphs/laws.FnSeen", spec := "fnSeen", unfollowed := true, recurses := true, named := ["loop.example/scopegraphs/impl.errScopes", "loop.example/scopegraphs/impl.errItems", "loop.example/scopegraphs/impl.errParent", "loop.example/scopegraphs/impl.errItem", "loop.example/scopegraphs/impl.errModule", "loop.example/scopegraphs/impl.errNoScope", "loop.example/scopegraphs/impl.errName"], ifaces := true, plainKeys := false, apart := false, laid := [("loop.example/scopegraphs/impl.errScopes", laid_loop_example_scopegraphs_impl_errScopes), ("loop.example/scopegraphs/impl.errParent", laid_loop_example_scopegraphs_impl_errParent), ("loop.example/scopegraphs/impl.errItems", laid_loop_example_scopegraphs_impl_errItems), ("loop.example/scopegraphs/impl.errItem", laid_loop_example_scopegraphs_impl_errItem), ("loop.example/scopegraphs/impl.errModule", laid_loop_example_scopegraphs_impl_errModule), ("loop.example/scopegraphs/impl.errNoScope", laid_loop_example_scopegraphs_impl_errNoScope), ("loop.example/scopegraphs/impl.errName", laid_loop_example_scopegraphs_impl_errName)], narrowed := true }
def FnSeenUptoSaid : Prop := fnSeenUptoRow.holds Tryd.pinned (OpenSpec.upto fnSeenSpec)

/-- 'laws.FnNumbers', WHERE WHAT IT READS IS OF BULK AT MOST 1048576: true; the input reads as it did. -/
def fnNumbersUptoRow : OpenClaim := { program := "ytjogfagjcpcihaadoor", sum := "240f493a921fed0b2c0695b01830b1d95ced89011be7934b24b839271d10dc0a", func := "loop.example/scopegraphs/laws.FnNumbers", spec := "fnNumbers", inPlace := ["internal/abi.NoEscape", "internal/bytealg.MakeNoZero"], unfollowed := true, recurses := true, named := ["internal/strconv.uint64pow10", "math/bits.deBruijn32tab", "math/bits.deBruijn64tab"], plainKeys := false, apart := false, laid := [("math/bits.deBruijn32tab", laid_math_bits_deBruijn32tab), ("math/bits.deBruijn64tab", laid_math_bits_deBruijn64tab), ("internal/strconv.uint64pow10", laid_internal_strconv_uint64pow10)], narrowed := true }
def FnNumbersUptoSaid : Prop := fnNumbersUptoRow.holds Tryd.pinned (OpenSpec.upto fnNumbersSpec)

/-- 'laws.FnExactFormatNumbers', WHERE WHAT IT READS IS OF BULK AT MOST 1048576: true; the input reads as it did. -/
def fnExactFormatNumbersUptoRow : OpenClaim := { program := "ytjogfagjcpcihaadoor", sum := "240f493a921fed0b2c0695b01830b1d95ced89011be7934b24b839271d10dc0a", func := "loop.example/scopegraphs/laws.FnExactFormatNumbers", spec := "fnExactFormatNumbers", inPlace := ["internal/abi.NoEscape", "internal/bytealg.MakeNoZero"], unfollowed := true, recurses := true, named := ["internal/strconv.uint64pow10", "math/bits.deBruijn32tab", "math/bits.deBruijn64tab"], plainKeys := false, apart := false, laid := [("math/bits.deBruijn32tab", laid_math_bits_deBruijn32tab), ("math/bits.deBruijn64tab", laid_math_bits_deBruijn64tab), ("internal/strconv.uint64pow10", laid_internal_strconv_uint64pow10)], narrowed := true }
def FnExactFormatNumbersUptoSaid : Prop := fnExactFormatNumbersUptoRow.holds Tryd.pinned (OpenSpec.upto fnExactFormatNumbersSpec)

/-- 'laws.FnExactFormatPlaces', WHERE WHAT IT READS IS OF BULK AT MOST 1048576: true; the input reads as it did. -/
def fnExactFormatPlacesUptoRow : OpenClaim := { program := "ytjogfagjcpcihaadoor", sum := "240f493a921fed0b2c0695b01830b1d95ced89011be7934b24b839271d10dc0a", func := "loop.example/scopegraphs/laws.FnExactFormatPlaces", spec := "fnExactFormatPlaces", inPlace := ["internal/abi.NoEscape", "internal/bytealg.MakeNoZero"], unfollowed := true, recurses := true, named := ["internal/strconv.uint64pow10", "math/bits.deBruijn32tab", "math/bits.deBruijn64tab"], plainKeys := false, apart := false, laid := [("math/bits.deBruijn32tab", laid_math_bits_deBruijn32tab), ("math/bits.deBruijn64tab", laid_math_bits_deBruijn64tab), ("internal/strconv.uint64pow10", laid_internal_strconv_uint64pow10)], narrowed := true }
def FnExactFormatPlacesUptoSaid : Prop := fnExactFormatPlacesUptoRow.holds Tryd.pinned (OpenSpec.upto fnExactFormatPlacesSpec)

/-- 'laws.FnExactTableOf', WHERE WHAT IT READS IS OF BULK AT MOST 1048576: true; the input reads as it did. -/
def fnExactTableOfUptoRow : OpenClaim := { program := "ytjogfagjcpcihaadoor", sum := "240f493a921fed0b2c0695b01830b1d95ced89011be7934b24b839271d10dc0a", func := "loop.example/scopegraphs/laws.FnExactTableOf", spec := "fnExactTableOf", inPlace := ["internal/abi.NoEscape", "internal/bytealg.MakeNoZero"], unfollowed := true, recurses := true, named := ["loop.example/scopegraphs/impl.errScopes", "loop.example/scopegraphs/impl.errItems", "loop.example/scopegraphs/impl.errParent", "loop.example/scopegraphs/impl.errItem", "loop.example/scopegraphs/impl.errModule", "internal/strconv.uint64pow10", "math/bits.deBruijn32tab", "math/bits.deBruijn64tab"], ifaces := true, plainKeys := false, apart := false, laid := [("math/bits.deBruijn32tab", laid_math_bits_deBruijn32tab), ("math/bits.deBruijn64tab", laid_math_bits_deBruijn64tab), ("internal/strconv.uint64pow10", laid_internal_strconv_uint64pow10), ("loop.example/scopegraphs/impl.errScopes", laid_loop_example_scopegraphs_impl_errScopes), ("loop.example/scopegraphs/impl.errParent", laid_loop_example_scopegraphs_impl_errParent), ("loop.example/scopegraphs/impl.errItems", laid_loop_example_scopegraphs_impl_errItems), ("loop.example/scopegraphs/impl.errItem", laid_loop_example_scopegraphs_impl_errItem), ("loop.example/scopegraphs/impl.errModule", laid_loop_example_scopegraphs_impl_errModule)], narrowed := true }
def FnExactTableOfUptoSaid : Prop := fnExactTableOfUptoRow.holds Tryd.pinned (OpenSpec.upto fnExactTableOfSpec)

/-- 'laws.FnExactIsFresh', WHERE WHAT IT READS IS OF BULK AT MOST 1048576: true; the input reads as it did. -/
def fnExactIsFreshUptoRow : OpenClaim := { program := "ytjogfagjcpcihaadoor", sum := "240f493a921fed0b2c0695b01830b1d95ced89011be7934b24b839271d10dc0a", func := "loop.example/scopegraphs/laws.FnExactIsFresh", spec := "fnExactIsFresh", unfollowed := true, recurses := true, named := ["loop.example/scopegraphs/impl.errScopes", "loop.example/scopegraphs/impl.errItems", "loop.example/scopegraphs/impl.errParent", "loop.example/scopegraphs/impl.errItem", "loop.example/scopegraphs/impl.errModule"], ifaces := true, plainKeys := false, apart := false, laid := [("loop.example/scopegraphs/impl.errScopes", laid_loop_example_scopegraphs_impl_errScopes), ("loop.example/scopegraphs/impl.errParent", laid_loop_example_scopegraphs_impl_errParent), ("loop.example/scopegraphs/impl.errItems", laid_loop_example_scopegraphs_impl_errItems), ("loop.example/scopegraphs/impl.errItem", laid_loop_example_scopegraphs_impl_errItem), ("loop.example/scopegraphs/impl.errModule", laid_loop_example_scopegraphs_impl_errModule)], narrowed := true }
def FnExactIsFreshUptoSaid : Prop := fnExactIsFreshUptoRow.holds Tryd.pinned (OpenSpec.upto fnExactIsFreshSpec)

/-- 'laws.FnExactCountNames', WHERE WHAT IT READS IS OF BULK AT MOST 1048576: true; the input reads as it did. -/
def fnExactCountNamesUptoRow : OpenClaim := { program := "ytjogfagjcpcihaadoor", sum := "240f493a921fed0b2c0695b01830b1d95ced89011be7934b24b839271d10dc0a", func := "loop.example/scopegraphs/laws.FnExactCountNames", spec := "fnExactCountNames", unfollowed := true, recurses := true, named := ["loop.example/scopegraphs/impl.errScopes", "loop.example/scopegraphs/impl.errItems", "loop.example/scopegraphs/impl.errParent", "loop.example/scopegraphs/impl.errItem", "loop.example/scopegraphs/impl.errModule"], ifaces := true, plainKeys := false, apart := false, laid := [("loop.example/scopegraphs/impl.errScopes", laid_loop_example_scopegraphs_impl_errScopes), ("loop.example/scopegraphs/impl.errParent", laid_loop_example_scopegraphs_impl_errParent), ("loop.example/scopegraphs/impl.errItems", laid_loop_example_scopegraphs_impl_errItems), ("loop.example/scopegraphs/impl.errItem", laid_loop_example_scopegraphs_impl_errItem), ("loop.example/scopegraphs/impl.errModule", laid_loop_example_scopegraphs_impl_errModule)], narrowed := true }
def FnExactCountNamesUptoSaid : Prop := fnExactCountNamesUptoRow.holds Tryd.pinned (OpenSpec.upto fnExactCountNamesSpec)

/-- 'laws.FnOwnNames', WHERE WHAT IT READS IS OF BULK AT MOST 1048576: true; the input reads as it did. -/
def fnOwnNamesUptoRow : OpenClaim := { program := "ytjogfagjcpcihaadoor", sum := "240f493a921fed0b2c0695b01830b1d95ced89011be7934b24b839271d10dc0a", func := "loop.example/scopegraphs/laws.FnOwnNames", spec := "fnOwnNames", unfollowed := true, recurses := true, named := ["loop.example/scopegraphs/impl.errScopes", "loop.example/scopegraphs/impl.errItems", "loop.example/scopegraphs/impl.errParent", "loop.example/scopegraphs/impl.errItem", "loop.example/scopegraphs/impl.errModule"], ifaces := true, plainKeys := false, apart := false, laid := [("loop.example/scopegraphs/impl.errScopes", laid_loop_example_scopegraphs_impl_errScopes), ("loop.example/scopegraphs/impl.errParent", laid_loop_example_scopegraphs_impl_errParent), ("loop.example/scopegraphs/impl.errItems", laid_loop_example_scopegraphs_impl_errItems), ("loop.example/scopegraphs/impl.errItem", laid_loop_example_scopegraphs_impl_errItem), ("loop.example/scopegraphs/impl.errModule", laid_loop_example_scopegraphs_impl_errModule)], narrowed := true }
def FnOwnNamesUptoSaid : Prop := fnOwnNamesUptoRow.holds Tryd.pinned (OpenSpec.upto fnOwnNamesSpec)

end Rows
end Go.Proofs.YtjogfagjcpcihaaDoor
