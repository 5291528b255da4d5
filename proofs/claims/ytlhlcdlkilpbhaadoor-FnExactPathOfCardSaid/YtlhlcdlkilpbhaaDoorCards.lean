/-
  DERIVED. GIVEN WITH THE SEED: THE CARDS: each row of YtlhlcdlkilpbhaaDoorRows.lean that lists a variable, with what it lists TIED to the program's text (the seventh form; the later family's looks); each row that meets fmt, with fmt's text TOLD by the authors' own Lean function (tested against real Go, not proved from fmt's source: count such statements apart). THE CARD IS WHAT COUNTS. Prove the row's statement (the work); the ties are given (YtlhlcdlkilpbhaaDoorTie.lean); close each card by the builder's one call (the guide's Derived/Test/ToyasCard.lean, 'card_holds'). Laid BY PROGRAM, IN A SANDBOX (cutbox-door.mjs). By AI agents, Wed Nov 11 2026. No macro, syntax, notation, axiom, sorry.
-/
import Derived.Test.YtlhlcdlkilpbhaaDoorRows
import GoSem.ClaimSeven
namespace Go.Proofs.YtlhlcdlkilpbhaaDoor
namespace Rows

/-- THE TIED CARD OF 'laws.FnExactItemAt'. -/
def fnExactItemAtCard : Claim7 := { stood := { row := fnExactItemAtRow, standIns := [], harness := (true, "86dd35b01ab6714e4278b934d559c5c7e1270092d49ec5ce269242eff91f39ab"), looks := false }, kinds := [], alts := [], laidByText := true, laidKinds := [.sentinel, .sentinel, .sentinel, .sentinel, .sentinel], laidTests := true, laidLooks := .later }
def FnExactItemAtCardSaid : Prop := Claim7.holds Tryd.pinned (.plain (OpenSpec.ofChange fnExactItemAtSpec)) fnExactItemAtCard

/-- THE TIED CARD OF 'laws.FnExactPlacesOf'. -/
def fnExactPlacesOfCard : Claim7 := { stood := { row := fnExactPlacesOfRow, standIns := [], harness := (true, "86dd35b01ab6714e4278b934d559c5c7e1270092d49ec5ce269242eff91f39ab"), looks := false }, kinds := [], alts := [], laidByText := true, laidKinds := [.sentinel, .sentinel, .sentinel, .sentinel, .sentinel], laidTests := true, laidLooks := .later }
def FnExactPlacesOfCardSaid : Prop := Claim7.holds Tryd.pinned (.plain (OpenSpec.ofChange fnExactPlacesOfSpec)) fnExactPlacesOfCard

/-- THE TIED CARD OF 'laws.FnExactWithinOf'. -/
def fnExactWithinOfCard : Claim7 := { stood := { row := fnExactWithinOfRow, standIns := [], harness := (true, "86dd35b01ab6714e4278b934d559c5c7e1270092d49ec5ce269242eff91f39ab"), looks := false }, kinds := [], alts := [], laidByText := true, laidKinds := [.sentinel, .sentinel, .sentinel, .sentinel, .sentinel, .sentinel], laidTests := true, laidLooks := .later }
def FnExactWithinOfCardSaid : Prop := Claim7.holds Tryd.pinned (.plain (OpenSpec.ofChange fnExactWithinOfSpec)) fnExactWithinOfCard

/-- THE TIED CARD OF 'laws.FnExactCommonScope'. -/
def fnExactCommonScopeCard : Claim7 := { stood := { row := fnExactCommonScopeRow, standIns := [], harness := (true, "86dd35b01ab6714e4278b934d559c5c7e1270092d49ec5ce269242eff91f39ab"), looks := false }, kinds := [], alts := [], laidByText := true, laidKinds := [.sentinel, .sentinel, .sentinel, .sentinel, .sentinel, .sentinel], laidTests := true, laidLooks := .later }
def FnExactCommonScopeCardSaid : Prop := Claim7.holds Tryd.pinned (.plain (OpenSpec.ofChange fnExactCommonScopeSpec)) fnExactCommonScopeCard

/-- THE TIED CARD OF 'laws.FnExactModuleOf'. -/
def fnExactModuleOfCard : Claim7 := { stood := { row := fnExactModuleOfRow, standIns := [], harness := (true, "86dd35b01ab6714e4278b934d559c5c7e1270092d49ec5ce269242eff91f39ab"), looks := false }, kinds := [], alts := [], laidByText := true, laidKinds := [.sentinel, .sentinel, .sentinel, .sentinel, .sentinel, .sentinel], laidTests := true, laidLooks := .later }
def FnExactModuleOfCardSaid : Prop := Claim7.holds Tryd.pinned (.plain (OpenSpec.ofChange fnExactModuleOfSpec)) fnExactModuleOfCard

/-- THE TIED CARD OF 'laws.FnExactBlocksOf'. -/
def fnExactBlocksOfCard : Claim7 := { stood := { row := fnExactBlocksOfRow, standIns := [], harness := (true, "86dd35b01ab6714e4278b934d559c5c7e1270092d49ec5ce269242eff91f39ab"), looks := false }, kinds := [], alts := [], laidByText := true, laidKinds := [.sentinel, .sentinel, .sentinel, .sentinel, .sentinel, .sentinel], laidTests := true, laidLooks := .later }
def FnExactBlocksOfCardSaid : Prop := Claim7.holds Tryd.pinned (.plain (OpenSpec.ofChange fnExactBlocksOfSpec)) fnExactBlocksOfCard

/-- THE TIED CARD OF 'laws.FnExactPathOf'. -/
def fnExactPathOfCard : Claim7 := { stood := { row := fnExactPathOfRow, standIns := [], harness := (true, "86dd35b01ab6714e4278b934d559c5c7e1270092d49ec5ce269242eff91f39ab"), looks := false }, kinds := [], alts := [], laidByText := true, laidKinds := [.sentinel, .sentinel, .sentinel, .sentinel, .sentinel, .sentinel], laidTests := true, laidLooks := .later }
def FnExactPathOfCardSaid : Prop := Claim7.holds Tryd.pinned (.plain (OpenSpec.ofChange fnExactPathOfSpec)) fnExactPathOfCard

/-- THE TIED CARD OF 'laws.FnExactOwnOf'. -/
def fnExactOwnOfCard : Claim7 := { stood := { row := fnExactOwnOfRow, standIns := [], harness := (true, "86dd35b01ab6714e4278b934d559c5c7e1270092d49ec5ce269242eff91f39ab"), looks := false }, kinds := [], alts := [], laidByText := true, laidKinds := [.sentinel, .sentinel, .sentinel, .sentinel, .sentinel, .sentinel, .sentinel], laidTests := true, laidLooks := .later }
def FnExactOwnOfCardSaid : Prop := Claim7.holds Tryd.pinned (.plain (OpenSpec.ofChange fnExactOwnOfSpec)) fnExactOwnOfCard

/-- THE TIED CARD OF 'laws.FnExactImportedScopes'. -/
def fnExactImportedScopesCard : Claim7 := { stood := { row := fnExactImportedScopesRow, standIns := [], harness := (true, "86dd35b01ab6714e4278b934d559c5c7e1270092d49ec5ce269242eff91f39ab"), looks := false }, kinds := [], alts := [], laidByText := true, laidKinds := [.sentinel, .sentinel, .sentinel, .sentinel, .sentinel, .sentinel], laidTests := true, laidLooks := .later }
def FnExactImportedScopesCardSaid : Prop := Claim7.holds Tryd.pinned (.plain (OpenSpec.ofChange fnExactImportedScopesSpec)) fnExactImportedScopesCard

/-- THE TIED CARD OF 'laws.FnExactImportedOf'. -/
def fnExactImportedOfCard : Claim7 := { stood := { row := fnExactImportedOfRow, standIns := [], harness := (true, "86dd35b01ab6714e4278b934d559c5c7e1270092d49ec5ce269242eff91f39ab"), looks := false }, kinds := [], alts := [], laidByText := true, laidKinds := [.sentinel, .sentinel, .sentinel, .sentinel, .sentinel, .sentinel, .sentinel], laidTests := true, laidLooks := .later }
def FnExactImportedOfCardSaid : Prop := Claim7.holds Tryd.pinned (.plain (OpenSpec.ofChange fnExactImportedOfSpec)) fnExactImportedOfCard

/-- THE TIED CARD OF 'laws.FnExactLookUp'. -/
def fnExactLookUpCard : Claim7 := { stood := { row := fnExactLookUpRow, standIns := [], harness := (true, "86dd35b01ab6714e4278b934d559c5c7e1270092d49ec5ce269242eff91f39ab"), looks := false }, kinds := [], alts := [], laidByText := true, laidKinds := [.sentinel, .sentinel, .sentinel, .sentinel, .sentinel, .sentinel, .sentinel], laidTests := true, laidLooks := .later }
def FnExactLookUpCardSaid : Prop := Claim7.holds Tryd.pinned (.plain (OpenSpec.ofChange fnExactLookUpSpec)) fnExactLookUpCard

/-- THE TIED CARD OF 'laws.FnExactImportTarget'. -/
def fnExactImportTargetCard : Claim7 := { stood := { row := fnExactImportTargetRow, standIns := [], harness := (true, "86dd35b01ab6714e4278b934d559c5c7e1270092d49ec5ce269242eff91f39ab"), looks := false }, kinds := [], alts := [], laidByText := true, laidKinds := [.sentinel, .sentinel, .sentinel, .sentinel, .sentinel], laidTests := true, laidLooks := .later }
def FnExactImportTargetCardSaid : Prop := Claim7.holds Tryd.pinned (.plain (OpenSpec.ofChange fnExactImportTargetSpec)) fnExactImportTargetCard

/-- THE SECOND FORM's CARD OF 'laws.FnExactItemAt'. -/
def fnExactItemAtUptoCard : Claim7 := { stood := { row := fnExactItemAtUptoRow, standIns := [], harness := (true, "86dd35b01ab6714e4278b934d559c5c7e1270092d49ec5ce269242eff91f39ab"), looks := false }, kinds := [], alts := [], laidByText := true, laidKinds := [.sentinel, .sentinel, .sentinel, .sentinel, .sentinel], laidTests := true, laidLooks := .later }
def FnExactItemAtUptoCardSaid : Prop := Claim7.holds Tryd.pinned (.plain (OpenSpec.upto fnExactItemAtSpec)) fnExactItemAtUptoCard

/-- THE SECOND FORM's CARD OF 'laws.FnExactPlacesOf'. -/
def fnExactPlacesOfUptoCard : Claim7 := { stood := { row := fnExactPlacesOfUptoRow, standIns := [], harness := (true, "86dd35b01ab6714e4278b934d559c5c7e1270092d49ec5ce269242eff91f39ab"), looks := false }, kinds := [], alts := [], laidByText := true, laidKinds := [.sentinel, .sentinel, .sentinel, .sentinel, .sentinel], laidTests := true, laidLooks := .later }
def FnExactPlacesOfUptoCardSaid : Prop := Claim7.holds Tryd.pinned (.plain (OpenSpec.upto fnExactPlacesOfSpec)) fnExactPlacesOfUptoCard

/-- THE SECOND FORM's CARD OF 'laws.FnExactWithinOf'. -/
def fnExactWithinOfUptoCard : Claim7 := { stood := { row := fnExactWithinOfUptoRow, standIns := [], harness := (true, "86dd35b01ab6714e4278b934d559c5c7e1270092d49ec5ce269242eff91f39ab"), looks := false }, kinds := [], alts := [], laidByText := true, laidKinds := [.sentinel, .sentinel, .sentinel, .sentinel, .sentinel, .sentinel], laidTests := true, laidLooks := .later }
def FnExactWithinOfUptoCardSaid : Prop := Claim7.holds Tryd.pinned (.plain (OpenSpec.upto fnExactWithinOfSpec)) fnExactWithinOfUptoCard

/-- THE SECOND FORM's CARD OF 'laws.FnExactCommonScope'. -/
def fnExactCommonScopeUptoCard : Claim7 := { stood := { row := fnExactCommonScopeUptoRow, standIns := [], harness := (true, "86dd35b01ab6714e4278b934d559c5c7e1270092d49ec5ce269242eff91f39ab"), looks := false }, kinds := [], alts := [], laidByText := true, laidKinds := [.sentinel, .sentinel, .sentinel, .sentinel, .sentinel, .sentinel], laidTests := true, laidLooks := .later }
def FnExactCommonScopeUptoCardSaid : Prop := Claim7.holds Tryd.pinned (.plain (OpenSpec.upto fnExactCommonScopeSpec)) fnExactCommonScopeUptoCard

/-- THE SECOND FORM's CARD OF 'laws.FnExactModuleOf'. -/
def fnExactModuleOfUptoCard : Claim7 := { stood := { row := fnExactModuleOfUptoRow, standIns := [], harness := (true, "86dd35b01ab6714e4278b934d559c5c7e1270092d49ec5ce269242eff91f39ab"), looks := false }, kinds := [], alts := [], laidByText := true, laidKinds := [.sentinel, .sentinel, .sentinel, .sentinel, .sentinel, .sentinel], laidTests := true, laidLooks := .later }
def FnExactModuleOfUptoCardSaid : Prop := Claim7.holds Tryd.pinned (.plain (OpenSpec.upto fnExactModuleOfSpec)) fnExactModuleOfUptoCard

/-- THE SECOND FORM's CARD OF 'laws.FnExactBlocksOf'. -/
def fnExactBlocksOfUptoCard : Claim7 := { stood := { row := fnExactBlocksOfUptoRow, standIns := [], harness := (true, "86dd35b01ab6714e4278b934d559c5c7e1270092d49ec5ce269242eff91f39ab"), looks := false }, kinds := [], alts := [], laidByText := true, laidKinds := [.sentinel, .sentinel, .sentinel, .sentinel, .sentinel, .sentinel], laidTests := true, laidLooks := .later }
def FnExactBlocksOfUptoCardSaid : Prop := Claim7.holds Tryd.pinned (.plain (OpenSpec.upto fnExactBlocksOfSpec)) fnExactBlocksOfUptoCard

/-- THE SECOND FORM's CARD OF 'laws.FnExactPathOf'. -/
def fnExactPathOfUptoCard : Claim7 := { stood := { row := fnExactPathOfUptoRow, standIns := [], harness := (true, "86dd35b01ab6714e4278b934d559c5c7e1270092d49ec5ce269242eff91f39ab"), looks := false }, kinds := [], alts := [], laidByText := true, laidKinds := [.sentinel, .sentinel, .sentinel, .sentinel, .sentinel, .sentinel], laidTests := true, laidLooks := .later }
def FnExactPathOfUptoCardSaid : Prop := Claim7.holds Tryd.pinned (.plain (OpenSpec.upto fnExactPathOfSpec)) fnExactPathOfUptoCard

/-- THE SECOND FORM's CARD OF 'laws.FnExactOwnOf'. -/
def fnExactOwnOfUptoCard : Claim7 := { stood := { row := fnExactOwnOfUptoRow, standIns := [], harness := (true, "86dd35b01ab6714e4278b934d559c5c7e1270092d49ec5ce269242eff91f39ab"), looks := false }, kinds := [], alts := [], laidByText := true, laidKinds := [.sentinel, .sentinel, .sentinel, .sentinel, .sentinel, .sentinel, .sentinel], laidTests := true, laidLooks := .later }
def FnExactOwnOfUptoCardSaid : Prop := Claim7.holds Tryd.pinned (.plain (OpenSpec.upto fnExactOwnOfSpec)) fnExactOwnOfUptoCard

/-- THE SECOND FORM's CARD OF 'laws.FnExactImportedScopes'. -/
def fnExactImportedScopesUptoCard : Claim7 := { stood := { row := fnExactImportedScopesUptoRow, standIns := [], harness := (true, "86dd35b01ab6714e4278b934d559c5c7e1270092d49ec5ce269242eff91f39ab"), looks := false }, kinds := [], alts := [], laidByText := true, laidKinds := [.sentinel, .sentinel, .sentinel, .sentinel, .sentinel, .sentinel], laidTests := true, laidLooks := .later }
def FnExactImportedScopesUptoCardSaid : Prop := Claim7.holds Tryd.pinned (.plain (OpenSpec.upto fnExactImportedScopesSpec)) fnExactImportedScopesUptoCard

/-- THE SECOND FORM's CARD OF 'laws.FnExactImportedOf'. -/
def fnExactImportedOfUptoCard : Claim7 := { stood := { row := fnExactImportedOfUptoRow, standIns := [], harness := (true, "86dd35b01ab6714e4278b934d559c5c7e1270092d49ec5ce269242eff91f39ab"), looks := false }, kinds := [], alts := [], laidByText := true, laidKinds := [.sentinel, .sentinel, .sentinel, .sentinel, .sentinel, .sentinel, .sentinel], laidTests := true, laidLooks := .later }
def FnExactImportedOfUptoCardSaid : Prop := Claim7.holds Tryd.pinned (.plain (OpenSpec.upto fnExactImportedOfSpec)) fnExactImportedOfUptoCard

/-- THE SECOND FORM's CARD OF 'laws.FnExactLookUp'. -/
def fnExactLookUpUptoCard : Claim7 := { stood := { row := fnExactLookUpUptoRow, standIns := [], harness := (true, "86dd35b01ab6714e4278b934d559c5c7e1270092d49ec5ce269242eff91f39ab"), looks := false }, kinds := [], alts := [], laidByText := true, laidKinds := [.sentinel, .sentinel, .sentinel, .sentinel, .sentinel, .sentinel, .sentinel], laidTests := true, laidLooks := .later }
def FnExactLookUpUptoCardSaid : Prop := Claim7.holds Tryd.pinned (.plain (OpenSpec.upto fnExactLookUpSpec)) fnExactLookUpUptoCard

/-- THE SECOND FORM's CARD OF 'laws.FnExactImportTarget'. -/
def fnExactImportTargetUptoCard : Claim7 := { stood := { row := fnExactImportTargetUptoRow, standIns := [], harness := (true, "86dd35b01ab6714e4278b934d559c5c7e1270092d49ec5ce269242eff91f39ab"), looks := false }, kinds := [], alts := [], laidByText := true, laidKinds := [.sentinel, .sentinel, .sentinel, .sentinel, .sentinel], laidTests := true, laidLooks := .later }
def FnExactImportTargetUptoCardSaid : Prop := Claim7.holds Tryd.pinned (.plain (OpenSpec.upto fnExactImportTargetSpec)) fnExactImportTargetUptoCard
end Rows
end Go.Proofs.YtlhlcdlkilpbhaaDoor
