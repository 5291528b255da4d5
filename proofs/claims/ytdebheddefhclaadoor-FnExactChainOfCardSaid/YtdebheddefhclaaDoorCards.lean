/-
  DERIVED. GIVEN WITH THE SEED: THE CARDS: each row of YtdebheddefhclaaDoorRows.lean that lists a variable, with what it lists TIED to the program's text (the seventh form; the later family's looks); each row that meets fmt, with fmt's text TOLD by the authors' own Lean function (tested against real Go, not proved from fmt's source: count such statements apart). THE CARD IS WHAT COUNTS. Prove the row's statement (the work); the ties are given (YtdebheddefhclaaDoorTie.lean); close each card by the builder's one call (the guide's Derived/Test/ToyasCard.lean, 'card_holds'). Laid BY PROGRAM, IN A SANDBOX (cutbox-door.mjs). By AI agents, Wed Nov 11 2026. No macro, syntax, notation, axiom, sorry.
-/
import Derived.Test.YtdebheddefhclaaDoorRows
import GoSem.ClaimSeven
namespace Go.Proofs.YtdebheddefhclaaDoor
namespace Rows

/-- THE TIED CARD OF 'laws.FnExactGraphValid'. -/
def fnExactGraphValidCard : Claim7 := { stood := { row := fnExactGraphValidRow, standIns := [], harness := (true, "1e88ff9d3395cc5e70ce0d915e73dbb837b42fd1ee2ea68bd025c51ea3f4f886"), looks := false }, kinds := [], alts := [], laidByText := true, laidKinds := [.sentinel, .sentinel, .sentinel, .sentinel, .sentinel], laidTests := true, laidLooks := .later }
def FnExactGraphValidCardSaid : Prop := Claim7.holds Tryd.pinned (.plain (OpenSpec.ofChange fnExactGraphValidSpec)) fnExactGraphValidCard

/-- THE TIED CARD OF 'laws.FnExactFormatGraph'. -/
def fnExactFormatGraphCard : Claim7 := { stood := { row := fnExactFormatGraphRow, standIns := [], harness := (true, "1e88ff9d3395cc5e70ce0d915e73dbb837b42fd1ee2ea68bd025c51ea3f4f886"), looks := false }, kinds := [], alts := [], laidByText := true, laidKinds := [.data, .data, .data, .sentinel, .sentinel, .sentinel, .sentinel, .sentinel], laidTests := true, laidLooks := .later }
def FnExactFormatGraphCardSaid : Prop := Claim7.holds Tryd.pinned (.plain (OpenSpec.ofChange fnExactFormatGraphSpec)) fnExactFormatGraphCard

/-- THE TIED CARD OF 'laws.FnExactItemAt'. -/
def fnExactItemAtCard : Claim7 := { stood := { row := fnExactItemAtRow, standIns := [], harness := (true, "1e88ff9d3395cc5e70ce0d915e73dbb837b42fd1ee2ea68bd025c51ea3f4f886"), looks := false }, kinds := [], alts := [], laidByText := true, laidKinds := [.sentinel, .sentinel, .sentinel, .sentinel, .sentinel], laidTests := true, laidLooks := .later }
def FnExactItemAtCardSaid : Prop := Claim7.holds Tryd.pinned (.plain (OpenSpec.ofChange fnExactItemAtSpec)) fnExactItemAtCard

/-- THE TIED CARD OF 'laws.FnExactPlacesOf'. -/
def fnExactPlacesOfCard : Claim7 := { stood := { row := fnExactPlacesOfRow, standIns := [], harness := (true, "1e88ff9d3395cc5e70ce0d915e73dbb837b42fd1ee2ea68bd025c51ea3f4f886"), looks := false }, kinds := [], alts := [], laidByText := true, laidKinds := [.sentinel, .sentinel, .sentinel, .sentinel, .sentinel], laidTests := true, laidLooks := .later }
def FnExactPlacesOfCardSaid : Prop := Claim7.holds Tryd.pinned (.plain (OpenSpec.ofChange fnExactPlacesOfSpec)) fnExactPlacesOfCard

/-- THE TIED CARD OF 'laws.FnExactNamesOf'. -/
def fnExactNamesOfCard : Claim7 := { stood := { row := fnExactNamesOfRow, standIns := [], harness := (true, "1e88ff9d3395cc5e70ce0d915e73dbb837b42fd1ee2ea68bd025c51ea3f4f886"), looks := false }, kinds := [], alts := [], laidByText := true, laidKinds := [.sentinel, .sentinel, .sentinel, .sentinel, .sentinel], laidTests := true, laidLooks := .later }
def FnExactNamesOfCardSaid : Prop := Claim7.holds Tryd.pinned (.plain (OpenSpec.ofChange fnExactNamesOfSpec)) fnExactNamesOfCard

/-- THE TIED CARD OF 'laws.FnExactChainOf'. -/
def fnExactChainOfCard : Claim7 := { stood := { row := fnExactChainOfRow, standIns := [], harness := (true, "1e88ff9d3395cc5e70ce0d915e73dbb837b42fd1ee2ea68bd025c51ea3f4f886"), looks := false }, kinds := [], alts := [], laidByText := true, laidKinds := [.sentinel, .sentinel, .sentinel, .sentinel, .sentinel, .sentinel], laidTests := true, laidLooks := .later }
def FnExactChainOfCardSaid : Prop := Claim7.holds Tryd.pinned (.plain (OpenSpec.ofChange fnExactChainOfSpec)) fnExactChainOfCard

/-- THE TIED CARD OF 'laws.FnExactWithinOf'. -/
def fnExactWithinOfCard : Claim7 := { stood := { row := fnExactWithinOfRow, standIns := [], harness := (true, "1e88ff9d3395cc5e70ce0d915e73dbb837b42fd1ee2ea68bd025c51ea3f4f886"), looks := false }, kinds := [], alts := [], laidByText := true, laidKinds := [.sentinel, .sentinel, .sentinel, .sentinel, .sentinel, .sentinel], laidTests := true, laidLooks := .later }
def FnExactWithinOfCardSaid : Prop := Claim7.holds Tryd.pinned (.plain (OpenSpec.ofChange fnExactWithinOfSpec)) fnExactWithinOfCard

/-- THE TIED CARD OF 'laws.FnExactScopeDepth'. -/
def fnExactScopeDepthCard : Claim7 := { stood := { row := fnExactScopeDepthRow, standIns := [], harness := (true, "1e88ff9d3395cc5e70ce0d915e73dbb837b42fd1ee2ea68bd025c51ea3f4f886"), looks := false }, kinds := [], alts := [], laidByText := true, laidKinds := [.sentinel, .sentinel, .sentinel, .sentinel, .sentinel, .sentinel], laidTests := true, laidLooks := .later }
def FnExactScopeDepthCardSaid : Prop := Claim7.holds Tryd.pinned (.plain (OpenSpec.ofChange fnExactScopeDepthSpec)) fnExactScopeDepthCard

/-- THE TIED CARD OF 'laws.FnExactCommonScope'. -/
def fnExactCommonScopeCard : Claim7 := { stood := { row := fnExactCommonScopeRow, standIns := [], harness := (true, "1e88ff9d3395cc5e70ce0d915e73dbb837b42fd1ee2ea68bd025c51ea3f4f886"), looks := false }, kinds := [], alts := [], laidByText := true, laidKinds := [.sentinel, .sentinel, .sentinel, .sentinel, .sentinel, .sentinel], laidTests := true, laidLooks := .later }
def FnExactCommonScopeCardSaid : Prop := Claim7.holds Tryd.pinned (.plain (OpenSpec.ofChange fnExactCommonScopeSpec)) fnExactCommonScopeCard

/-- THE TIED CARD OF 'laws.FnExactModuleOf'. -/
def fnExactModuleOfCard : Claim7 := { stood := { row := fnExactModuleOfRow, standIns := [], harness := (true, "1e88ff9d3395cc5e70ce0d915e73dbb837b42fd1ee2ea68bd025c51ea3f4f886"), looks := false }, kinds := [], alts := [], laidByText := true, laidKinds := [.sentinel, .sentinel, .sentinel, .sentinel, .sentinel, .sentinel], laidTests := true, laidLooks := .later }
def FnExactModuleOfCardSaid : Prop := Claim7.holds Tryd.pinned (.plain (OpenSpec.ofChange fnExactModuleOfSpec)) fnExactModuleOfCard

/-- THE TIED CARD OF 'laws.FnExactBlocksOf'. -/
def fnExactBlocksOfCard : Claim7 := { stood := { row := fnExactBlocksOfRow, standIns := [], harness := (true, "1e88ff9d3395cc5e70ce0d915e73dbb837b42fd1ee2ea68bd025c51ea3f4f886"), looks := false }, kinds := [], alts := [], laidByText := true, laidKinds := [.sentinel, .sentinel, .sentinel, .sentinel, .sentinel, .sentinel], laidTests := true, laidLooks := .later }
def FnExactBlocksOfCardSaid : Prop := Claim7.holds Tryd.pinned (.plain (OpenSpec.ofChange fnExactBlocksOfSpec)) fnExactBlocksOfCard

/-- THE TIED CARD OF 'laws.FnExactPathOf'. -/
def fnExactPathOfCard : Claim7 := { stood := { row := fnExactPathOfRow, standIns := [], harness := (true, "1e88ff9d3395cc5e70ce0d915e73dbb837b42fd1ee2ea68bd025c51ea3f4f886"), looks := false }, kinds := [], alts := [], laidByText := true, laidKinds := [.sentinel, .sentinel, .sentinel, .sentinel, .sentinel, .sentinel], laidTests := true, laidLooks := .later }
def FnExactPathOfCardSaid : Prop := Claim7.holds Tryd.pinned (.plain (OpenSpec.ofChange fnExactPathOfSpec)) fnExactPathOfCard

/-- THE SECOND FORM's CARD OF 'laws.FnExactGraphValid'. -/
def fnExactGraphValidUptoCard : Claim7 := { stood := { row := fnExactGraphValidUptoRow, standIns := [], harness := (true, "1e88ff9d3395cc5e70ce0d915e73dbb837b42fd1ee2ea68bd025c51ea3f4f886"), looks := false }, kinds := [], alts := [], laidByText := true, laidKinds := [.sentinel, .sentinel, .sentinel, .sentinel, .sentinel], laidTests := true, laidLooks := .later }
def FnExactGraphValidUptoCardSaid : Prop := Claim7.holds Tryd.pinned (.plain (OpenSpec.upto fnExactGraphValidSpec)) fnExactGraphValidUptoCard

/-- THE SECOND FORM's CARD OF 'laws.FnExactFormatGraph'. -/
def fnExactFormatGraphUptoCard : Claim7 := { stood := { row := fnExactFormatGraphUptoRow, standIns := [], harness := (true, "1e88ff9d3395cc5e70ce0d915e73dbb837b42fd1ee2ea68bd025c51ea3f4f886"), looks := false }, kinds := [], alts := [], laidByText := true, laidKinds := [.data, .data, .data, .sentinel, .sentinel, .sentinel, .sentinel, .sentinel], laidTests := true, laidLooks := .later }
def FnExactFormatGraphUptoCardSaid : Prop := Claim7.holds Tryd.pinned (.plain (OpenSpec.upto fnExactFormatGraphSpec)) fnExactFormatGraphUptoCard

/-- THE SECOND FORM's CARD OF 'laws.FnExactItemAt'. -/
def fnExactItemAtUptoCard : Claim7 := { stood := { row := fnExactItemAtUptoRow, standIns := [], harness := (true, "1e88ff9d3395cc5e70ce0d915e73dbb837b42fd1ee2ea68bd025c51ea3f4f886"), looks := false }, kinds := [], alts := [], laidByText := true, laidKinds := [.sentinel, .sentinel, .sentinel, .sentinel, .sentinel], laidTests := true, laidLooks := .later }
def FnExactItemAtUptoCardSaid : Prop := Claim7.holds Tryd.pinned (.plain (OpenSpec.upto fnExactItemAtSpec)) fnExactItemAtUptoCard

/-- THE SECOND FORM's CARD OF 'laws.FnExactPlacesOf'. -/
def fnExactPlacesOfUptoCard : Claim7 := { stood := { row := fnExactPlacesOfUptoRow, standIns := [], harness := (true, "1e88ff9d3395cc5e70ce0d915e73dbb837b42fd1ee2ea68bd025c51ea3f4f886"), looks := false }, kinds := [], alts := [], laidByText := true, laidKinds := [.sentinel, .sentinel, .sentinel, .sentinel, .sentinel], laidTests := true, laidLooks := .later }
def FnExactPlacesOfUptoCardSaid : Prop := Claim7.holds Tryd.pinned (.plain (OpenSpec.upto fnExactPlacesOfSpec)) fnExactPlacesOfUptoCard

/-- THE SECOND FORM's CARD OF 'laws.FnExactNamesOf'. -/
def fnExactNamesOfUptoCard : Claim7 := { stood := { row := fnExactNamesOfUptoRow, standIns := [], harness := (true, "1e88ff9d3395cc5e70ce0d915e73dbb837b42fd1ee2ea68bd025c51ea3f4f886"), looks := false }, kinds := [], alts := [], laidByText := true, laidKinds := [.sentinel, .sentinel, .sentinel, .sentinel, .sentinel], laidTests := true, laidLooks := .later }
def FnExactNamesOfUptoCardSaid : Prop := Claim7.holds Tryd.pinned (.plain (OpenSpec.upto fnExactNamesOfSpec)) fnExactNamesOfUptoCard

/-- THE SECOND FORM's CARD OF 'laws.FnExactChainOf'. -/
def fnExactChainOfUptoCard : Claim7 := { stood := { row := fnExactChainOfUptoRow, standIns := [], harness := (true, "1e88ff9d3395cc5e70ce0d915e73dbb837b42fd1ee2ea68bd025c51ea3f4f886"), looks := false }, kinds := [], alts := [], laidByText := true, laidKinds := [.sentinel, .sentinel, .sentinel, .sentinel, .sentinel, .sentinel], laidTests := true, laidLooks := .later }
def FnExactChainOfUptoCardSaid : Prop := Claim7.holds Tryd.pinned (.plain (OpenSpec.upto fnExactChainOfSpec)) fnExactChainOfUptoCard

/-- THE SECOND FORM's CARD OF 'laws.FnExactWithinOf'. -/
def fnExactWithinOfUptoCard : Claim7 := { stood := { row := fnExactWithinOfUptoRow, standIns := [], harness := (true, "1e88ff9d3395cc5e70ce0d915e73dbb837b42fd1ee2ea68bd025c51ea3f4f886"), looks := false }, kinds := [], alts := [], laidByText := true, laidKinds := [.sentinel, .sentinel, .sentinel, .sentinel, .sentinel, .sentinel], laidTests := true, laidLooks := .later }
def FnExactWithinOfUptoCardSaid : Prop := Claim7.holds Tryd.pinned (.plain (OpenSpec.upto fnExactWithinOfSpec)) fnExactWithinOfUptoCard

/-- THE SECOND FORM's CARD OF 'laws.FnExactScopeDepth'. -/
def fnExactScopeDepthUptoCard : Claim7 := { stood := { row := fnExactScopeDepthUptoRow, standIns := [], harness := (true, "1e88ff9d3395cc5e70ce0d915e73dbb837b42fd1ee2ea68bd025c51ea3f4f886"), looks := false }, kinds := [], alts := [], laidByText := true, laidKinds := [.sentinel, .sentinel, .sentinel, .sentinel, .sentinel, .sentinel], laidTests := true, laidLooks := .later }
def FnExactScopeDepthUptoCardSaid : Prop := Claim7.holds Tryd.pinned (.plain (OpenSpec.upto fnExactScopeDepthSpec)) fnExactScopeDepthUptoCard

/-- THE SECOND FORM's CARD OF 'laws.FnExactCommonScope'. -/
def fnExactCommonScopeUptoCard : Claim7 := { stood := { row := fnExactCommonScopeUptoRow, standIns := [], harness := (true, "1e88ff9d3395cc5e70ce0d915e73dbb837b42fd1ee2ea68bd025c51ea3f4f886"), looks := false }, kinds := [], alts := [], laidByText := true, laidKinds := [.sentinel, .sentinel, .sentinel, .sentinel, .sentinel, .sentinel], laidTests := true, laidLooks := .later }
def FnExactCommonScopeUptoCardSaid : Prop := Claim7.holds Tryd.pinned (.plain (OpenSpec.upto fnExactCommonScopeSpec)) fnExactCommonScopeUptoCard

/-- THE SECOND FORM's CARD OF 'laws.FnExactModuleOf'. -/
def fnExactModuleOfUptoCard : Claim7 := { stood := { row := fnExactModuleOfUptoRow, standIns := [], harness := (true, "1e88ff9d3395cc5e70ce0d915e73dbb837b42fd1ee2ea68bd025c51ea3f4f886"), looks := false }, kinds := [], alts := [], laidByText := true, laidKinds := [.sentinel, .sentinel, .sentinel, .sentinel, .sentinel, .sentinel], laidTests := true, laidLooks := .later }
def FnExactModuleOfUptoCardSaid : Prop := Claim7.holds Tryd.pinned (.plain (OpenSpec.upto fnExactModuleOfSpec)) fnExactModuleOfUptoCard

/-- THE SECOND FORM's CARD OF 'laws.FnExactBlocksOf'. -/
def fnExactBlocksOfUptoCard : Claim7 := { stood := { row := fnExactBlocksOfUptoRow, standIns := [], harness := (true, "1e88ff9d3395cc5e70ce0d915e73dbb837b42fd1ee2ea68bd025c51ea3f4f886"), looks := false }, kinds := [], alts := [], laidByText := true, laidKinds := [.sentinel, .sentinel, .sentinel, .sentinel, .sentinel, .sentinel], laidTests := true, laidLooks := .later }
def FnExactBlocksOfUptoCardSaid : Prop := Claim7.holds Tryd.pinned (.plain (OpenSpec.upto fnExactBlocksOfSpec)) fnExactBlocksOfUptoCard

/-- THE SECOND FORM's CARD OF 'laws.FnExactPathOf'. -/
def fnExactPathOfUptoCard : Claim7 := { stood := { row := fnExactPathOfUptoRow, standIns := [], harness := (true, "1e88ff9d3395cc5e70ce0d915e73dbb837b42fd1ee2ea68bd025c51ea3f4f886"), looks := false }, kinds := [], alts := [], laidByText := true, laidKinds := [.sentinel, .sentinel, .sentinel, .sentinel, .sentinel, .sentinel], laidTests := true, laidLooks := .later }
def FnExactPathOfUptoCardSaid : Prop := Claim7.holds Tryd.pinned (.plain (OpenSpec.upto fnExactPathOfSpec)) fnExactPathOfUptoCard
end Rows
end Go.Proofs.YtdebheddefhclaaDoor
