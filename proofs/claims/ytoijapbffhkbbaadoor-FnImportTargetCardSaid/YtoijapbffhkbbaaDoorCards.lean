/-
  DERIVED. GIVEN WITH THE SEED: THE CARDS: each row of YtoijapbffhkbbaaDoorRows.lean that lists a variable, with what it lists TIED to the program's text (the seventh form; the later family's looks); each row that meets fmt, with fmt's text TOLD by the authors' own Lean function (tested against real Go, not proved from fmt's source: count such statements apart). THE CARD IS WHAT COUNTS. Prove the row's statement (the work); the ties are given (YtoijapbffhkbbaaDoorTie.lean); close each card by the builder's one call (the guide's Derived/Test/ToyasCard.lean, 'card_holds'). Laid BY PROGRAM, IN A SANDBOX (cutbox-door.mjs). By AI agents, Wed Nov 11 2026. No macro, syntax, notation, axiom, sorry.
-/
import Derived.Test.YtoijapbffhkbbaaDoorRows
import GoSem.ClaimSeven
namespace Go.Proofs.YtoijapbffhkbbaaDoor
namespace Rows

/-- THE TIED CARD OF 'laws.FnExactVisibleNames'. -/
def fnExactVisibleNamesCard : Claim7 := { stood := { row := fnExactVisibleNamesRow, standIns := [], harness := (true, "2c5b386281967d23d26544b383e2439c566d7332891732128d4034956015880b"), looks := true }, kinds := [], alts := [], laidByText := true, laidKinds := [.sentinel, .sentinel, .sentinel, .sentinel, .sentinel, .sentinel], laidTests := true, laidLooks := .later }
def FnExactVisibleNamesCardSaid : Prop := Claim7.holds Tryd.pinned (.plain (OpenSpec.ofChange fnExactVisibleNamesSpec)) fnExactVisibleNamesCard

/-- THE TIED CARD OF 'laws.FnExactSeenFrom'. -/
def fnExactSeenFromCard : Claim7 := { stood := { row := fnExactSeenFromRow, standIns := [], harness := (true, "2c5b386281967d23d26544b383e2439c566d7332891732128d4034956015880b"), looks := true }, kinds := [], alts := [], laidByText := true, laidKinds := [.sentinel, .sentinel, .sentinel, .sentinel, .sentinel, .sentinel], laidTests := true, laidLooks := .later }
def FnExactSeenFromCardSaid : Prop := Claim7.holds Tryd.pinned (.plain (OpenSpec.ofChange fnExactSeenFromSpec)) fnExactSeenFromCard

/-- THE TIED CARD OF 'laws.FnExactHiddenFrom'. -/
def fnExactHiddenFromCard : Claim7 := { stood := { row := fnExactHiddenFromRow, standIns := [], harness := (true, "2c5b386281967d23d26544b383e2439c566d7332891732128d4034956015880b"), looks := true }, kinds := [], alts := [], laidByText := true, laidKinds := [.sentinel, .sentinel, .sentinel, .sentinel, .sentinel, .sentinel], laidTests := true, laidLooks := .later }
def FnExactHiddenFromCardSaid : Prop := Claim7.holds Tryd.pinned (.plain (OpenSpec.ofChange fnExactHiddenFromSpec)) fnExactHiddenFromCard

/-- THE TIED CARD OF 'laws.FnExactHidesOf'. -/
def fnExactHidesOfCard : Claim7 := { stood := { row := fnExactHidesOfRow, standIns := [], harness := (true, "2c5b386281967d23d26544b383e2439c566d7332891732128d4034956015880b"), looks := true }, kinds := [], alts := [], laidByText := true, laidKinds := [.sentinel, .sentinel, .sentinel, .sentinel, .sentinel, .sentinel], laidTests := true, laidLooks := .later }
def FnExactHidesOfCardSaid : Prop := Claim7.holds Tryd.pinned (.plain (OpenSpec.ofChange fnExactHidesOfSpec)) fnExactHidesOfCard

/-- THE TIED CARD OF 'laws.FnExactFreeNames'. -/
def fnExactFreeNamesCard : Claim7 := { stood := { row := fnExactFreeNamesRow, standIns := [], harness := (true, "2c5b386281967d23d26544b383e2439c566d7332891732128d4034956015880b"), looks := true }, kinds := [], alts := [], laidByText := true, laidKinds := [.sentinel, .sentinel, .sentinel, .sentinel, .sentinel, .sentinel], laidTests := true, laidLooks := .later }
def FnExactFreeNamesCardSaid : Prop := Claim7.holds Tryd.pinned (.plain (OpenSpec.ofChange fnExactFreeNamesSpec)) fnExactFreeNamesCard

/-- THE TIED CARD OF 'laws.FnExactClashesOf'. -/
def fnExactClashesOfCard : Claim7 := { stood := { row := fnExactClashesOfRow, standIns := [], harness := (true, "2c5b386281967d23d26544b383e2439c566d7332891732128d4034956015880b"), looks := true }, kinds := [], alts := [], laidByText := true, laidKinds := [.sentinel, .sentinel, .sentinel, .sentinel, .sentinel, .sentinel], laidTests := true, laidLooks := .later }
def FnExactClashesOfCardSaid : Prop := Claim7.holds Tryd.pinned (.plain (OpenSpec.ofChange fnExactClashesOfSpec)) fnExactClashesOfCard

/-- THE TIED CARD OF 'laws.FnImported'. -/
def fnImportedCard : Claim7 := { stood := { row := fnImportedRow, standIns := [], harness := (true, "2c5b386281967d23d26544b383e2439c566d7332891732128d4034956015880b"), looks := true }, kinds := [], alts := [], laidByText := true, laidKinds := [.sentinel, .sentinel, .sentinel, .sentinel, .sentinel, .sentinel, .sentinel], laidTests := true, laidLooks := .later }
def FnImportedCardSaid : Prop := Claim7.holds Tryd.pinned (.plain (OpenSpec.ofChange fnImportedSpec)) fnImportedCard

/-- THE TIED CARD OF 'laws.FnChain'. -/
def fnChainCard : Claim7 := { stood := { row := fnChainRow, standIns := [], harness := (true, "2c5b386281967d23d26544b383e2439c566d7332891732128d4034956015880b"), looks := true }, kinds := [], alts := [], laidByText := true, laidKinds := [.sentinel, .sentinel, .sentinel, .sentinel, .sentinel, .sentinel], laidTests := true, laidLooks := .later }
def FnChainCardSaid : Prop := Claim7.holds Tryd.pinned (.plain (OpenSpec.ofChange fnChainSpec)) fnChainCard

/-- THE TIED CARD OF 'laws.FnImportTarget'. -/
def fnImportTargetCard : Claim7 := { stood := { row := fnImportTargetRow, standIns := [], harness := (true, "2c5b386281967d23d26544b383e2439c566d7332891732128d4034956015880b"), looks := true }, kinds := [], alts := [], laidByText := true, laidKinds := [.sentinel, .sentinel, .sentinel, .sentinel, .sentinel, .sentinel, .sentinel], laidTests := true, laidLooks := .later }
def FnImportTargetCardSaid : Prop := Claim7.holds Tryd.pinned (.plain (OpenSpec.ofChange fnImportTargetSpec)) fnImportTargetCard

/-- THE TIED CARD OF 'laws.FnExactFormatGraph'. -/
def fnExactFormatGraphCard : Claim7 := { stood := { row := fnExactFormatGraphRow, standIns := [], harness := (true, "2c5b386281967d23d26544b383e2439c566d7332891732128d4034956015880b"), looks := true }, kinds := [], alts := [], laidByText := true, laidKinds := [.data, .data, .data, .sentinel, .sentinel, .sentinel, .sentinel, .sentinel], laidTests := true, laidLooks := .later }
def FnExactFormatGraphCardSaid : Prop := Claim7.holds Tryd.pinned (.plain (OpenSpec.ofChange fnExactFormatGraphSpec)) fnExactFormatGraphCard

/-- THE TIED CARD OF 'laws.FnExactNamesOf'. -/
def fnExactNamesOfCard : Claim7 := { stood := { row := fnExactNamesOfRow, standIns := [], harness := (true, "2c5b386281967d23d26544b383e2439c566d7332891732128d4034956015880b"), looks := true }, kinds := [], alts := [], laidByText := true, laidKinds := [.sentinel, .sentinel, .sentinel, .sentinel, .sentinel], laidTests := true, laidLooks := .later }
def FnExactNamesOfCardSaid : Prop := Claim7.holds Tryd.pinned (.plain (OpenSpec.ofChange fnExactNamesOfSpec)) fnExactNamesOfCard

/-- THE TIED CARD OF 'laws.FnExactParseGraph'. -/
def fnExactParseGraphCard : Claim7 := { stood := { row := fnExactParseGraphRow, standIns := [], harness := (true, "2c5b386281967d23d26544b383e2439c566d7332891732128d4034956015880b"), looks := true }, kinds := [], alts := [], laidByText := true, laidKinds := [.data, .data, .data, .sentinel, .sentinel, .sentinel, .sentinel, .sentinel, .sentinel, .sentinel, .sentinel], laidTests := true, laidLooks := .later }
def FnExactParseGraphCardSaid : Prop := Claim7.holds Tryd.pinned (.plain (OpenSpec.ofChange fnExactParseGraphSpec)) fnExactParseGraphCard

/-- THE SECOND FORM's CARD OF 'laws.FnExactVisibleNames'. -/
def fnExactVisibleNamesUptoCard : Claim7 := { stood := { row := fnExactVisibleNamesUptoRow, standIns := [], harness := (true, "2c5b386281967d23d26544b383e2439c566d7332891732128d4034956015880b"), looks := true }, kinds := [], alts := [], laidByText := true, laidKinds := [.sentinel, .sentinel, .sentinel, .sentinel, .sentinel, .sentinel], laidTests := true, laidLooks := .later }
def FnExactVisibleNamesUptoCardSaid : Prop := Claim7.holds Tryd.pinned (.plain (OpenSpec.upto fnExactVisibleNamesSpec)) fnExactVisibleNamesUptoCard

/-- THE SECOND FORM's CARD OF 'laws.FnExactSeenFrom'. -/
def fnExactSeenFromUptoCard : Claim7 := { stood := { row := fnExactSeenFromUptoRow, standIns := [], harness := (true, "2c5b386281967d23d26544b383e2439c566d7332891732128d4034956015880b"), looks := true }, kinds := [], alts := [], laidByText := true, laidKinds := [.sentinel, .sentinel, .sentinel, .sentinel, .sentinel, .sentinel], laidTests := true, laidLooks := .later }
def FnExactSeenFromUptoCardSaid : Prop := Claim7.holds Tryd.pinned (.plain (OpenSpec.upto fnExactSeenFromSpec)) fnExactSeenFromUptoCard

/-- THE SECOND FORM's CARD OF 'laws.FnExactHiddenFrom'. -/
def fnExactHiddenFromUptoCard : Claim7 := { stood := { row := fnExactHiddenFromUptoRow, standIns := [], harness := (true, "2c5b386281967d23d26544b383e2439c566d7332891732128d4034956015880b"), looks := true }, kinds := [], alts := [], laidByText := true, laidKinds := [.sentinel, .sentinel, .sentinel, .sentinel, .sentinel, .sentinel], laidTests := true, laidLooks := .later }
def FnExactHiddenFromUptoCardSaid : Prop := Claim7.holds Tryd.pinned (.plain (OpenSpec.upto fnExactHiddenFromSpec)) fnExactHiddenFromUptoCard

/-- THE SECOND FORM's CARD OF 'laws.FnExactHidesOf'. -/
def fnExactHidesOfUptoCard : Claim7 := { stood := { row := fnExactHidesOfUptoRow, standIns := [], harness := (true, "2c5b386281967d23d26544b383e2439c566d7332891732128d4034956015880b"), looks := true }, kinds := [], alts := [], laidByText := true, laidKinds := [.sentinel, .sentinel, .sentinel, .sentinel, .sentinel, .sentinel], laidTests := true, laidLooks := .later }
def FnExactHidesOfUptoCardSaid : Prop := Claim7.holds Tryd.pinned (.plain (OpenSpec.upto fnExactHidesOfSpec)) fnExactHidesOfUptoCard

/-- THE SECOND FORM's CARD OF 'laws.FnExactFreeNames'. -/
def fnExactFreeNamesUptoCard : Claim7 := { stood := { row := fnExactFreeNamesUptoRow, standIns := [], harness := (true, "2c5b386281967d23d26544b383e2439c566d7332891732128d4034956015880b"), looks := true }, kinds := [], alts := [], laidByText := true, laidKinds := [.sentinel, .sentinel, .sentinel, .sentinel, .sentinel, .sentinel], laidTests := true, laidLooks := .later }
def FnExactFreeNamesUptoCardSaid : Prop := Claim7.holds Tryd.pinned (.plain (OpenSpec.upto fnExactFreeNamesSpec)) fnExactFreeNamesUptoCard

/-- THE SECOND FORM's CARD OF 'laws.FnExactClashesOf'. -/
def fnExactClashesOfUptoCard : Claim7 := { stood := { row := fnExactClashesOfUptoRow, standIns := [], harness := (true, "2c5b386281967d23d26544b383e2439c566d7332891732128d4034956015880b"), looks := true }, kinds := [], alts := [], laidByText := true, laidKinds := [.sentinel, .sentinel, .sentinel, .sentinel, .sentinel, .sentinel], laidTests := true, laidLooks := .later }
def FnExactClashesOfUptoCardSaid : Prop := Claim7.holds Tryd.pinned (.plain (OpenSpec.upto fnExactClashesOfSpec)) fnExactClashesOfUptoCard

/-- THE SECOND FORM's CARD OF 'laws.FnImported'. -/
def fnImportedUptoCard : Claim7 := { stood := { row := fnImportedUptoRow, standIns := [], harness := (true, "2c5b386281967d23d26544b383e2439c566d7332891732128d4034956015880b"), looks := true }, kinds := [], alts := [], laidByText := true, laidKinds := [.sentinel, .sentinel, .sentinel, .sentinel, .sentinel, .sentinel, .sentinel], laidTests := true, laidLooks := .later }
def FnImportedUptoCardSaid : Prop := Claim7.holds Tryd.pinned (.plain (OpenSpec.upto fnImportedSpec)) fnImportedUptoCard

/-- THE SECOND FORM's CARD OF 'laws.FnChain'. -/
def fnChainUptoCard : Claim7 := { stood := { row := fnChainUptoRow, standIns := [], harness := (true, "2c5b386281967d23d26544b383e2439c566d7332891732128d4034956015880b"), looks := true }, kinds := [], alts := [], laidByText := true, laidKinds := [.sentinel, .sentinel, .sentinel, .sentinel, .sentinel, .sentinel], laidTests := true, laidLooks := .later }
def FnChainUptoCardSaid : Prop := Claim7.holds Tryd.pinned (.plain (OpenSpec.upto fnChainSpec)) fnChainUptoCard

/-- THE SECOND FORM's CARD OF 'laws.FnImportTarget'. -/
def fnImportTargetUptoCard : Claim7 := { stood := { row := fnImportTargetUptoRow, standIns := [], harness := (true, "2c5b386281967d23d26544b383e2439c566d7332891732128d4034956015880b"), looks := true }, kinds := [], alts := [], laidByText := true, laidKinds := [.sentinel, .sentinel, .sentinel, .sentinel, .sentinel, .sentinel, .sentinel], laidTests := true, laidLooks := .later }
def FnImportTargetUptoCardSaid : Prop := Claim7.holds Tryd.pinned (.plain (OpenSpec.upto fnImportTargetSpec)) fnImportTargetUptoCard

/-- THE SECOND FORM's CARD OF 'laws.FnExactFormatGraph'. -/
def fnExactFormatGraphUptoCard : Claim7 := { stood := { row := fnExactFormatGraphUptoRow, standIns := [], harness := (true, "2c5b386281967d23d26544b383e2439c566d7332891732128d4034956015880b"), looks := true }, kinds := [], alts := [], laidByText := true, laidKinds := [.data, .data, .data, .sentinel, .sentinel, .sentinel, .sentinel, .sentinel], laidTests := true, laidLooks := .later }
def FnExactFormatGraphUptoCardSaid : Prop := Claim7.holds Tryd.pinned (.plain (OpenSpec.upto fnExactFormatGraphSpec)) fnExactFormatGraphUptoCard

/-- THE SECOND FORM's CARD OF 'laws.FnExactNamesOf'. -/
def fnExactNamesOfUptoCard : Claim7 := { stood := { row := fnExactNamesOfUptoRow, standIns := [], harness := (true, "2c5b386281967d23d26544b383e2439c566d7332891732128d4034956015880b"), looks := true }, kinds := [], alts := [], laidByText := true, laidKinds := [.sentinel, .sentinel, .sentinel, .sentinel, .sentinel], laidTests := true, laidLooks := .later }
def FnExactNamesOfUptoCardSaid : Prop := Claim7.holds Tryd.pinned (.plain (OpenSpec.upto fnExactNamesOfSpec)) fnExactNamesOfUptoCard

/-- THE SECOND FORM's CARD OF 'laws.FnExactParseGraph'. -/
def fnExactParseGraphUptoCard : Claim7 := { stood := { row := fnExactParseGraphUptoRow, standIns := [], harness := (true, "2c5b386281967d23d26544b383e2439c566d7332891732128d4034956015880b"), looks := true }, kinds := [], alts := [], laidByText := true, laidKinds := [.data, .data, .data, .sentinel, .sentinel, .sentinel, .sentinel, .sentinel, .sentinel, .sentinel, .sentinel], laidTests := true, laidLooks := .later }
def FnExactParseGraphUptoCardSaid : Prop := Claim7.holds Tryd.pinned (.plain (OpenSpec.upto fnExactParseGraphSpec)) fnExactParseGraphUptoCard
end Rows
end Go.Proofs.YtoijapbffhkbbaaDoor
