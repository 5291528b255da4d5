/-
  DERIVED. GIVEN WITH THE SEED: THE CARDS: each row of YtifjljkbfabifaaDoorRows.lean that lists a variable, with what it lists TIED to the program's text (the seventh form; the later family's looks); each row that meets fmt, with fmt's text TOLD by the authors' own Lean function (tested against real Go, not proved from fmt's source: count such statements apart). THE CARD IS WHAT COUNTS. Prove the row's statement (the work); the ties are given (YtifjljkbfabifaaDoorTie.lean); close each card by the builder's one call (the guide's Derived/Test/ToyasCard.lean, 'card_holds'). Laid BY PROGRAM, IN A SANDBOX (cutbox-door.mjs). By AI agents, Wed Nov 11 2026. No macro, syntax, notation, axiom, sorry.
-/
import Derived.Test.YtifjljkbfabifaaDoorRows
import GoSem.ClaimSeven
namespace Go.Proofs.YtifjljkbfabifaaDoor
namespace Rows

/-- THE TIED CARD OF 'laws.FnExactFewestNames'. -/
def fnExactFewestNamesCard : Claim7 := { stood := { row := fnExactFewestNamesRow, standIns := [], harness := (true, "997786616ead72a3807507d0096f40c7ca43b7115a4caf14f92d49d835b3ebae"), looks := false }, kinds := [], alts := [], laidByText := true, laidKinds := [.sentinel, .sentinel, .sentinel, .sentinel, .sentinel, .sentinel, .sentinel, .sentinel], laidTests := true, laidLooks := .later }
def FnExactFewestNamesCardSaid : Prop := Claim7.holds Tryd.pinned (.plain (OpenSpec.ofChange fnExactFewestNamesSpec)) fnExactFewestNamesCard

/-- THE TIED CARD OF 'laws.FnExactGreedyNames'. -/
def fnExactGreedyNamesCard : Claim7 := { stood := { row := fnExactGreedyNamesRow, standIns := [], harness := (true, "997786616ead72a3807507d0096f40c7ca43b7115a4caf14f92d49d835b3ebae"), looks := false }, kinds := [], alts := [], laidByText := true, laidKinds := [.sentinel, .sentinel, .sentinel, .sentinel, .sentinel, .sentinel, .sentinel, .sentinel], laidTests := true, laidLooks := .later }
def FnExactGreedyNamesCardSaid : Prop := Claim7.holds Tryd.pinned (.plain (OpenSpec.ofChange fnExactGreedyNamesSpec)) fnExactGreedyNamesCard

/-- THE TIED CARD OF 'laws.FnExactProgramValid'. -/
def fnExactProgramValidCard : Claim7 := { stood := { row := fnExactProgramValidRow, standIns := [], harness := (true, "997786616ead72a3807507d0096f40c7ca43b7115a4caf14f92d49d835b3ebae"), looks := false }, kinds := [], alts := [], laidByText := true, laidKinds := [.sentinel, .sentinel, .sentinel, .sentinel, .sentinel, .sentinel], laidTests := true, laidLooks := .later }
def FnExactProgramValidCardSaid : Prop := Claim7.holds Tryd.pinned (.plain (OpenSpec.ofChange fnExactProgramValidSpec)) fnExactProgramValidCard

/-- THE TIED CARD OF 'laws.FnExactGraphOf'. -/
def fnExactGraphOfCard : Claim7 := { stood := { row := fnExactGraphOfRow, standIns := [], harness := (true, "997786616ead72a3807507d0096f40c7ca43b7115a4caf14f92d49d835b3ebae"), looks := false }, kinds := [], alts := [], laidByText := true, laidKinds := [.sentinel, .sentinel, .sentinel, .sentinel, .sentinel, .sentinel], laidTests := true, laidLooks := .later }
def FnExactGraphOfCardSaid : Prop := Claim7.holds Tryd.pinned (.plain (OpenSpec.ofChange fnExactGraphOfSpec)) fnExactGraphOfCard

/-- THE TIED CARD OF 'laws.FnExactProgramOf'. -/
def fnExactProgramOfCard : Claim7 := { stood := { row := fnExactProgramOfRow, standIns := [], harness := (true, "997786616ead72a3807507d0096f40c7ca43b7115a4caf14f92d49d835b3ebae"), looks := false }, kinds := [], alts := [], laidByText := true, laidKinds := [.sentinel, .sentinel, .sentinel, .sentinel, .sentinel], laidTests := true, laidLooks := .later }
def FnExactProgramOfCardSaid : Prop := Claim7.holds Tryd.pinned (.plain (OpenSpec.ofChange fnExactProgramOfSpec)) fnExactProgramOfCard

/-- THE TIED CARD OF 'laws.FnExactInOrder'. -/
def fnExactInOrderCard : Claim7 := { stood := { row := fnExactInOrderRow, standIns := [], harness := (true, "997786616ead72a3807507d0096f40c7ca43b7115a4caf14f92d49d835b3ebae"), looks := false }, kinds := [], alts := [], laidByText := true, laidKinds := [.sentinel, .sentinel, .sentinel, .sentinel, .sentinel, .sentinel], laidTests := true, laidLooks := .later }
def FnExactInOrderCardSaid : Prop := Claim7.holds Tryd.pinned (.plain (OpenSpec.ofChange fnExactInOrderSpec)) fnExactInOrderCard

/-- THE TIED CARD OF 'laws.FnExactScopesAfter'. -/
def fnExactScopesAfterCard : Claim7 := { stood := { row := fnExactScopesAfterRow, standIns := [], harness := (true, "997786616ead72a3807507d0096f40c7ca43b7115a4caf14f92d49d835b3ebae"), looks := false }, kinds := [], alts := [], laidByText := true, laidKinds := [.sentinel, .sentinel, .sentinel, .sentinel, .sentinel], laidTests := true, laidLooks := .later }
def FnExactScopesAfterCardSaid : Prop := Claim7.holds Tryd.pinned (.plain (OpenSpec.ofChange fnExactScopesAfterSpec)) fnExactScopesAfterCard

/-- THE TIED CARD OF 'laws.FnExactBytesOf'. -/
def fnExactBytesOfCard : Claim7 := { stood := { row := fnExactBytesOfRow, standIns := [], harness := (true, "997786616ead72a3807507d0096f40c7ca43b7115a4caf14f92d49d835b3ebae"), looks := false }, kinds := [], alts := [], laidByText := true, laidKinds := [.sentinel, .sentinel, .sentinel, .sentinel, .sentinel, .sentinel], laidTests := true, laidLooks := .later }
def FnExactBytesOfCardSaid : Prop := Claim7.holds Tryd.pinned (.plain (OpenSpec.ofChange fnExactBytesOfSpec)) fnExactBytesOfCard

/-- THE TIED CARD OF 'laws.FnExactNestingOf'. -/
def fnExactNestingOfCard : Claim7 := { stood := { row := fnExactNestingOfRow, standIns := [], harness := (true, "997786616ead72a3807507d0096f40c7ca43b7115a4caf14f92d49d835b3ebae"), looks := false }, kinds := [], alts := [], laidByText := true, laidKinds := [.sentinel, .sentinel, .sentinel, .sentinel, .sentinel, .sentinel, .sentinel], laidTests := true, laidLooks := .later }
def FnExactNestingOfCardSaid : Prop := Claim7.holds Tryd.pinned (.plain (OpenSpec.ofChange fnExactNestingOfSpec)) fnExactNestingOfCard

/-- THE TIED CARD OF 'laws.FnExactPlacesOf'. -/
def fnExactPlacesOfCard : Claim7 := { stood := { row := fnExactPlacesOfRow, standIns := [], harness := (true, "997786616ead72a3807507d0096f40c7ca43b7115a4caf14f92d49d835b3ebae"), looks := false }, kinds := [], alts := [], laidByText := true, laidKinds := [.sentinel, .sentinel, .sentinel, .sentinel, .sentinel], laidTests := true, laidLooks := .later }
def FnExactPlacesOfCardSaid : Prop := Claim7.holds Tryd.pinned (.plain (OpenSpec.ofChange fnExactPlacesOfSpec)) fnExactPlacesOfCard

/-- THE TIED CARD OF 'laws.FnExactBlocksOf'. -/
def fnExactBlocksOfCard : Claim7 := { stood := { row := fnExactBlocksOfRow, standIns := [], harness := (true, "997786616ead72a3807507d0096f40c7ca43b7115a4caf14f92d49d835b3ebae"), looks := false }, kinds := [], alts := [], laidByText := true, laidKinds := [.sentinel, .sentinel, .sentinel, .sentinel, .sentinel, .sentinel], laidTests := true, laidLooks := .later }
def FnExactBlocksOfCardSaid : Prop := Claim7.holds Tryd.pinned (.plain (OpenSpec.ofChange fnExactBlocksOfSpec)) fnExactBlocksOfCard

/-- THE TIED CARD OF 'laws.FnExactIsFresh'. -/
def fnExactIsFreshCard : Claim7 := { stood := { row := fnExactIsFreshRow, standIns := [], harness := (true, "997786616ead72a3807507d0096f40c7ca43b7115a4caf14f92d49d835b3ebae"), looks := false }, kinds := [], alts := [], laidByText := true, laidKinds := [.sentinel, .sentinel, .sentinel, .sentinel, .sentinel], laidTests := true, laidLooks := .later }
def FnExactIsFreshCardSaid : Prop := Claim7.holds Tryd.pinned (.plain (OpenSpec.ofChange fnExactIsFreshSpec)) fnExactIsFreshCard

/-- THE SECOND FORM's CARD OF 'laws.FnExactFewestNames'. -/
def fnExactFewestNamesUptoCard : Claim7 := { stood := { row := fnExactFewestNamesUptoRow, standIns := [], harness := (true, "997786616ead72a3807507d0096f40c7ca43b7115a4caf14f92d49d835b3ebae"), looks := false }, kinds := [], alts := [], laidByText := true, laidKinds := [.sentinel, .sentinel, .sentinel, .sentinel, .sentinel, .sentinel, .sentinel, .sentinel], laidTests := true, laidLooks := .later }
def FnExactFewestNamesUptoCardSaid : Prop := Claim7.holds Tryd.pinned (.plain (OpenSpec.upto fnExactFewestNamesSpec)) fnExactFewestNamesUptoCard

/-- THE SECOND FORM's CARD OF 'laws.FnExactGreedyNames'. -/
def fnExactGreedyNamesUptoCard : Claim7 := { stood := { row := fnExactGreedyNamesUptoRow, standIns := [], harness := (true, "997786616ead72a3807507d0096f40c7ca43b7115a4caf14f92d49d835b3ebae"), looks := false }, kinds := [], alts := [], laidByText := true, laidKinds := [.sentinel, .sentinel, .sentinel, .sentinel, .sentinel, .sentinel, .sentinel, .sentinel], laidTests := true, laidLooks := .later }
def FnExactGreedyNamesUptoCardSaid : Prop := Claim7.holds Tryd.pinned (.plain (OpenSpec.upto fnExactGreedyNamesSpec)) fnExactGreedyNamesUptoCard

/-- THE SECOND FORM's CARD OF 'laws.FnExactProgramValid'. -/
def fnExactProgramValidUptoCard : Claim7 := { stood := { row := fnExactProgramValidUptoRow, standIns := [], harness := (true, "997786616ead72a3807507d0096f40c7ca43b7115a4caf14f92d49d835b3ebae"), looks := false }, kinds := [], alts := [], laidByText := true, laidKinds := [.sentinel, .sentinel, .sentinel, .sentinel, .sentinel, .sentinel], laidTests := true, laidLooks := .later }
def FnExactProgramValidUptoCardSaid : Prop := Claim7.holds Tryd.pinned (.plain (OpenSpec.upto fnExactProgramValidSpec)) fnExactProgramValidUptoCard

/-- THE SECOND FORM's CARD OF 'laws.FnExactGraphOf'. -/
def fnExactGraphOfUptoCard : Claim7 := { stood := { row := fnExactGraphOfUptoRow, standIns := [], harness := (true, "997786616ead72a3807507d0096f40c7ca43b7115a4caf14f92d49d835b3ebae"), looks := false }, kinds := [], alts := [], laidByText := true, laidKinds := [.sentinel, .sentinel, .sentinel, .sentinel, .sentinel, .sentinel], laidTests := true, laidLooks := .later }
def FnExactGraphOfUptoCardSaid : Prop := Claim7.holds Tryd.pinned (.plain (OpenSpec.upto fnExactGraphOfSpec)) fnExactGraphOfUptoCard

/-- THE SECOND FORM's CARD OF 'laws.FnExactProgramOf'. -/
def fnExactProgramOfUptoCard : Claim7 := { stood := { row := fnExactProgramOfUptoRow, standIns := [], harness := (true, "997786616ead72a3807507d0096f40c7ca43b7115a4caf14f92d49d835b3ebae"), looks := false }, kinds := [], alts := [], laidByText := true, laidKinds := [.sentinel, .sentinel, .sentinel, .sentinel, .sentinel], laidTests := true, laidLooks := .later }
def FnExactProgramOfUptoCardSaid : Prop := Claim7.holds Tryd.pinned (.plain (OpenSpec.upto fnExactProgramOfSpec)) fnExactProgramOfUptoCard

/-- THE SECOND FORM's CARD OF 'laws.FnExactInOrder'. -/
def fnExactInOrderUptoCard : Claim7 := { stood := { row := fnExactInOrderUptoRow, standIns := [], harness := (true, "997786616ead72a3807507d0096f40c7ca43b7115a4caf14f92d49d835b3ebae"), looks := false }, kinds := [], alts := [], laidByText := true, laidKinds := [.sentinel, .sentinel, .sentinel, .sentinel, .sentinel, .sentinel], laidTests := true, laidLooks := .later }
def FnExactInOrderUptoCardSaid : Prop := Claim7.holds Tryd.pinned (.plain (OpenSpec.upto fnExactInOrderSpec)) fnExactInOrderUptoCard

/-- THE SECOND FORM's CARD OF 'laws.FnExactScopesAfter'. -/
def fnExactScopesAfterUptoCard : Claim7 := { stood := { row := fnExactScopesAfterUptoRow, standIns := [], harness := (true, "997786616ead72a3807507d0096f40c7ca43b7115a4caf14f92d49d835b3ebae"), looks := false }, kinds := [], alts := [], laidByText := true, laidKinds := [.sentinel, .sentinel, .sentinel, .sentinel, .sentinel], laidTests := true, laidLooks := .later }
def FnExactScopesAfterUptoCardSaid : Prop := Claim7.holds Tryd.pinned (.plain (OpenSpec.upto fnExactScopesAfterSpec)) fnExactScopesAfterUptoCard

/-- THE SECOND FORM's CARD OF 'laws.FnExactBytesOf'. -/
def fnExactBytesOfUptoCard : Claim7 := { stood := { row := fnExactBytesOfUptoRow, standIns := [], harness := (true, "997786616ead72a3807507d0096f40c7ca43b7115a4caf14f92d49d835b3ebae"), looks := false }, kinds := [], alts := [], laidByText := true, laidKinds := [.sentinel, .sentinel, .sentinel, .sentinel, .sentinel, .sentinel], laidTests := true, laidLooks := .later }
def FnExactBytesOfUptoCardSaid : Prop := Claim7.holds Tryd.pinned (.plain (OpenSpec.upto fnExactBytesOfSpec)) fnExactBytesOfUptoCard

/-- THE SECOND FORM's CARD OF 'laws.FnExactNestingOf'. -/
def fnExactNestingOfUptoCard : Claim7 := { stood := { row := fnExactNestingOfUptoRow, standIns := [], harness := (true, "997786616ead72a3807507d0096f40c7ca43b7115a4caf14f92d49d835b3ebae"), looks := false }, kinds := [], alts := [], laidByText := true, laidKinds := [.sentinel, .sentinel, .sentinel, .sentinel, .sentinel, .sentinel, .sentinel], laidTests := true, laidLooks := .later }
def FnExactNestingOfUptoCardSaid : Prop := Claim7.holds Tryd.pinned (.plain (OpenSpec.upto fnExactNestingOfSpec)) fnExactNestingOfUptoCard

/-- THE SECOND FORM's CARD OF 'laws.FnExactPlacesOf'. -/
def fnExactPlacesOfUptoCard : Claim7 := { stood := { row := fnExactPlacesOfUptoRow, standIns := [], harness := (true, "997786616ead72a3807507d0096f40c7ca43b7115a4caf14f92d49d835b3ebae"), looks := false }, kinds := [], alts := [], laidByText := true, laidKinds := [.sentinel, .sentinel, .sentinel, .sentinel, .sentinel], laidTests := true, laidLooks := .later }
def FnExactPlacesOfUptoCardSaid : Prop := Claim7.holds Tryd.pinned (.plain (OpenSpec.upto fnExactPlacesOfSpec)) fnExactPlacesOfUptoCard

/-- THE SECOND FORM's CARD OF 'laws.FnExactBlocksOf'. -/
def fnExactBlocksOfUptoCard : Claim7 := { stood := { row := fnExactBlocksOfUptoRow, standIns := [], harness := (true, "997786616ead72a3807507d0096f40c7ca43b7115a4caf14f92d49d835b3ebae"), looks := false }, kinds := [], alts := [], laidByText := true, laidKinds := [.sentinel, .sentinel, .sentinel, .sentinel, .sentinel, .sentinel], laidTests := true, laidLooks := .later }
def FnExactBlocksOfUptoCardSaid : Prop := Claim7.holds Tryd.pinned (.plain (OpenSpec.upto fnExactBlocksOfSpec)) fnExactBlocksOfUptoCard

/-- THE SECOND FORM's CARD OF 'laws.FnExactIsFresh'. -/
def fnExactIsFreshUptoCard : Claim7 := { stood := { row := fnExactIsFreshUptoRow, standIns := [], harness := (true, "997786616ead72a3807507d0096f40c7ca43b7115a4caf14f92d49d835b3ebae"), looks := false }, kinds := [], alts := [], laidByText := true, laidKinds := [.sentinel, .sentinel, .sentinel, .sentinel, .sentinel], laidTests := true, laidLooks := .later }
def FnExactIsFreshUptoCardSaid : Prop := Claim7.holds Tryd.pinned (.plain (OpenSpec.upto fnExactIsFreshSpec)) fnExactIsFreshUptoCard
end Rows
end Go.Proofs.YtifjljkbfabifaaDoor
