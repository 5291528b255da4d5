/-
  DERIVED. GIVEN WITH THE SEED: THE CARDS: each row of YtpoabnlebfjliaaDoorRows.lean that lists a variable, with what it lists TIED to the program's text (the seventh form; the later family's looks); each row that meets fmt, with fmt's text TOLD by the authors' own Lean function (tested against real Go, not proved from fmt's source: count such statements apart). THE CARD IS WHAT COUNTS. Prove the row's statement (the work); the ties are given (YtpoabnlebfjliaaDoorTie.lean); close each card by the builder's one call (the guide's Derived/Test/ToyasCard.lean, 'card_holds'). Laid BY PROGRAM, IN A SANDBOX (cutbox-door.mjs). By AI agents, Wed Nov 11 2026. No macro, syntax, notation, axiom, sorry.
-/
import Derived.Test.YtpoabnlebfjliaaDoorRows
import GoSem.ClaimSeven
namespace Go.Proofs.YtpoabnlebfjliaaDoor
namespace Rows

/-- THE TIED CARD OF 'laws.FnExactImportCircles'. -/
def fnExactImportCirclesCard : Claim7 := { stood := { row := fnExactImportCirclesRow, standIns := [], harness := (true, "5765632ce16ea2dcb169a97f51678b3f9df80c1d9e3ecc79620f86cc66cc997d"), looks := false }, kinds := [], alts := [], laidByText := true, laidKinds := [.sentinel, .sentinel, .sentinel, .sentinel, .sentinel], laidTests := true, laidLooks := .later }
def FnExactImportCirclesCardSaid : Prop := Claim7.holds Tryd.pinned (.plain (OpenSpec.ofChange fnExactImportCirclesSpec)) fnExactImportCirclesCard

/-- THE TIED CARD OF 'laws.FnExactResolveItem'. -/
def fnExactResolveItemCard : Claim7 := { stood := { row := fnExactResolveItemRow, standIns := [], harness := (true, "5765632ce16ea2dcb169a97f51678b3f9df80c1d9e3ecc79620f86cc66cc997d"), looks := false }, kinds := [], alts := [], laidByText := true, laidKinds := [.sentinel, .sentinel, .sentinel, .sentinel, .sentinel], laidTests := true, laidLooks := .later }
def FnExactResolveItemCardSaid : Prop := Claim7.holds Tryd.pinned (.plain (OpenSpec.ofChange fnExactResolveItemSpec)) fnExactResolveItemCard

/-- THE TIED CARD OF 'laws.FnExactStateOf'. -/
def fnExactStateOfCard : Claim7 := { stood := { row := fnExactStateOfRow, standIns := [], harness := (true, "5765632ce16ea2dcb169a97f51678b3f9df80c1d9e3ecc79620f86cc66cc997d"), looks := false }, kinds := [], alts := [], laidByText := true, laidKinds := [.sentinel, .sentinel, .sentinel, .sentinel, .sentinel], laidTests := true, laidLooks := .later }
def FnExactStateOfCardSaid : Prop := Claim7.holds Tryd.pinned (.plain (OpenSpec.ofChange fnExactStateOfSpec)) fnExactStateOfCard

/-- THE TIED CARD OF 'laws.FnExactItemsIn'. -/
def fnExactItemsInCard : Claim7 := { stood := { row := fnExactItemsInRow, standIns := [], harness := (true, "5765632ce16ea2dcb169a97f51678b3f9df80c1d9e3ecc79620f86cc66cc997d"), looks := false }, kinds := [], alts := [], laidByText := true, laidKinds := [.sentinel, .sentinel, .sentinel, .sentinel, .sentinel], laidTests := true, laidLooks := .later }
def FnExactItemsInCardSaid : Prop := Claim7.holds Tryd.pinned (.plain (OpenSpec.ofChange fnExactItemsInSpec)) fnExactItemsInCard

/-- THE TIED CARD OF 'laws.FnExactIsSound'. -/
def fnExactIsSoundCard : Claim7 := { stood := { row := fnExactIsSoundRow, standIns := [], harness := (true, "5765632ce16ea2dcb169a97f51678b3f9df80c1d9e3ecc79620f86cc66cc997d"), looks := false }, kinds := [], alts := [], laidByText := true, laidKinds := [.sentinel, .sentinel, .sentinel, .sentinel, .sentinel], laidTests := true, laidLooks := .later }
def FnExactIsSoundCardSaid : Prop := Claim7.holds Tryd.pinned (.plain (OpenSpec.ofChange fnExactIsSoundSpec)) fnExactIsSoundCard

/-- THE TIED CARD OF 'laws.FnExactTableOf'. -/
def fnExactTableOfCard : Claim7 := { stood := { row := fnExactTableOfRow, standIns := [], harness := (true, "5765632ce16ea2dcb169a97f51678b3f9df80c1d9e3ecc79620f86cc66cc997d"), looks := false }, kinds := [], alts := [], laidByText := true, laidKinds := [.data, .data, .data, .sentinel, .sentinel, .sentinel, .sentinel, .sentinel], laidTests := true, laidLooks := .later }
def FnExactTableOfCardSaid : Prop := Claim7.holds Tryd.pinned (.plain (OpenSpec.ofChange fnExactTableOfSpec)) fnExactTableOfCard

/-- THE TIED CARD OF 'laws.FnExactQualified'. -/
def fnExactQualifiedCard : Claim7 := { stood := { row := fnExactQualifiedRow, standIns := [], harness := (true, "5765632ce16ea2dcb169a97f51678b3f9df80c1d9e3ecc79620f86cc66cc997d"), looks := false }, kinds := [], alts := [], laidByText := true, laidKinds := [.sentinel, .sentinel, .sentinel, .sentinel, .sentinel, .sentinel], laidTests := true, laidLooks := .later }
def FnExactQualifiedCardSaid : Prop := Claim7.holds Tryd.pinned (.plain (OpenSpec.ofChange fnExactQualifiedSpec)) fnExactQualifiedCard

/-- THE TIED CARD OF 'laws.FnExactFindPath'. -/
def fnExactFindPathCard : Claim7 := { stood := { row := fnExactFindPathRow, standIns := [], harness := (true, "5765632ce16ea2dcb169a97f51678b3f9df80c1d9e3ecc79620f86cc66cc997d"), looks := false }, kinds := [], alts := [], laidByText := true, laidKinds := [.sentinel, .sentinel, .sentinel, .sentinel, .sentinel, .sentinel, .sentinel], laidTests := true, laidLooks := .later }
def FnExactFindPathCardSaid : Prop := Claim7.holds Tryd.pinned (.plain (OpenSpec.ofChange fnExactFindPathSpec)) fnExactFindPathCard

/-- THE TIED CARD OF 'laws.FnExactNameOfState'. -/
def fnExactNameOfStateCard : Claim7 := { stood := { row := fnExactNameOfStateRow, standIns := [], harness := (true, "5765632ce16ea2dcb169a97f51678b3f9df80c1d9e3ecc79620f86cc66cc997d"), looks := false }, kinds := [], alts := [], laidByText := true, laidKinds := [.data], laidTests := true, laidLooks := .later }
def FnExactNameOfStateCardSaid : Prop := Claim7.holds Tryd.pinned (.plain (OpenSpec.ofChange fnExactNameOfStateSpec)) fnExactNameOfStateCard

/-- THE SECOND FORM's CARD OF 'laws.FnExactImportCircles'. -/
def fnExactImportCirclesUptoCard : Claim7 := { stood := { row := fnExactImportCirclesUptoRow, standIns := [], harness := (true, "5765632ce16ea2dcb169a97f51678b3f9df80c1d9e3ecc79620f86cc66cc997d"), looks := false }, kinds := [], alts := [], laidByText := true, laidKinds := [.sentinel, .sentinel, .sentinel, .sentinel, .sentinel], laidTests := true, laidLooks := .later }
def FnExactImportCirclesUptoCardSaid : Prop := Claim7.holds Tryd.pinned (.plain (OpenSpec.upto fnExactImportCirclesSpec)) fnExactImportCirclesUptoCard

/-- THE SECOND FORM's CARD OF 'laws.FnExactResolveItem'. -/
def fnExactResolveItemUptoCard : Claim7 := { stood := { row := fnExactResolveItemUptoRow, standIns := [], harness := (true, "5765632ce16ea2dcb169a97f51678b3f9df80c1d9e3ecc79620f86cc66cc997d"), looks := false }, kinds := [], alts := [], laidByText := true, laidKinds := [.sentinel, .sentinel, .sentinel, .sentinel, .sentinel], laidTests := true, laidLooks := .later }
def FnExactResolveItemUptoCardSaid : Prop := Claim7.holds Tryd.pinned (.plain (OpenSpec.upto fnExactResolveItemSpec)) fnExactResolveItemUptoCard

/-- THE SECOND FORM's CARD OF 'laws.FnExactStateOf'. -/
def fnExactStateOfUptoCard : Claim7 := { stood := { row := fnExactStateOfUptoRow, standIns := [], harness := (true, "5765632ce16ea2dcb169a97f51678b3f9df80c1d9e3ecc79620f86cc66cc997d"), looks := false }, kinds := [], alts := [], laidByText := true, laidKinds := [.sentinel, .sentinel, .sentinel, .sentinel, .sentinel], laidTests := true, laidLooks := .later }
def FnExactStateOfUptoCardSaid : Prop := Claim7.holds Tryd.pinned (.plain (OpenSpec.upto fnExactStateOfSpec)) fnExactStateOfUptoCard

/-- THE SECOND FORM's CARD OF 'laws.FnExactItemsIn'. -/
def fnExactItemsInUptoCard : Claim7 := { stood := { row := fnExactItemsInUptoRow, standIns := [], harness := (true, "5765632ce16ea2dcb169a97f51678b3f9df80c1d9e3ecc79620f86cc66cc997d"), looks := false }, kinds := [], alts := [], laidByText := true, laidKinds := [.sentinel, .sentinel, .sentinel, .sentinel, .sentinel], laidTests := true, laidLooks := .later }
def FnExactItemsInUptoCardSaid : Prop := Claim7.holds Tryd.pinned (.plain (OpenSpec.upto fnExactItemsInSpec)) fnExactItemsInUptoCard

/-- THE SECOND FORM's CARD OF 'laws.FnExactIsSound'. -/
def fnExactIsSoundUptoCard : Claim7 := { stood := { row := fnExactIsSoundUptoRow, standIns := [], harness := (true, "5765632ce16ea2dcb169a97f51678b3f9df80c1d9e3ecc79620f86cc66cc997d"), looks := false }, kinds := [], alts := [], laidByText := true, laidKinds := [.sentinel, .sentinel, .sentinel, .sentinel, .sentinel], laidTests := true, laidLooks := .later }
def FnExactIsSoundUptoCardSaid : Prop := Claim7.holds Tryd.pinned (.plain (OpenSpec.upto fnExactIsSoundSpec)) fnExactIsSoundUptoCard

/-- THE SECOND FORM's CARD OF 'laws.FnExactTableOf'. -/
def fnExactTableOfUptoCard : Claim7 := { stood := { row := fnExactTableOfUptoRow, standIns := [], harness := (true, "5765632ce16ea2dcb169a97f51678b3f9df80c1d9e3ecc79620f86cc66cc997d"), looks := false }, kinds := [], alts := [], laidByText := true, laidKinds := [.data, .data, .data, .sentinel, .sentinel, .sentinel, .sentinel, .sentinel], laidTests := true, laidLooks := .later }
def FnExactTableOfUptoCardSaid : Prop := Claim7.holds Tryd.pinned (.plain (OpenSpec.upto fnExactTableOfSpec)) fnExactTableOfUptoCard

/-- THE SECOND FORM's CARD OF 'laws.FnExactQualified'. -/
def fnExactQualifiedUptoCard : Claim7 := { stood := { row := fnExactQualifiedUptoRow, standIns := [], harness := (true, "5765632ce16ea2dcb169a97f51678b3f9df80c1d9e3ecc79620f86cc66cc997d"), looks := false }, kinds := [], alts := [], laidByText := true, laidKinds := [.sentinel, .sentinel, .sentinel, .sentinel, .sentinel, .sentinel], laidTests := true, laidLooks := .later }
def FnExactQualifiedUptoCardSaid : Prop := Claim7.holds Tryd.pinned (.plain (OpenSpec.upto fnExactQualifiedSpec)) fnExactQualifiedUptoCard

/-- THE SECOND FORM's CARD OF 'laws.FnExactFindPath'. -/
def fnExactFindPathUptoCard : Claim7 := { stood := { row := fnExactFindPathUptoRow, standIns := [], harness := (true, "5765632ce16ea2dcb169a97f51678b3f9df80c1d9e3ecc79620f86cc66cc997d"), looks := false }, kinds := [], alts := [], laidByText := true, laidKinds := [.sentinel, .sentinel, .sentinel, .sentinel, .sentinel, .sentinel, .sentinel], laidTests := true, laidLooks := .later }
def FnExactFindPathUptoCardSaid : Prop := Claim7.holds Tryd.pinned (.plain (OpenSpec.upto fnExactFindPathSpec)) fnExactFindPathUptoCard

/-- THE SECOND FORM's CARD OF 'laws.FnExactNameOfState'. -/
def fnExactNameOfStateUptoCard : Claim7 := { stood := { row := fnExactNameOfStateUptoRow, standIns := [], harness := (true, "5765632ce16ea2dcb169a97f51678b3f9df80c1d9e3ecc79620f86cc66cc997d"), looks := false }, kinds := [], alts := [], laidByText := true, laidKinds := [.data], laidTests := true, laidLooks := .later }
def FnExactNameOfStateUptoCardSaid : Prop := Claim7.holds Tryd.pinned (.plain (OpenSpec.upto fnExactNameOfStateSpec)) fnExactNameOfStateUptoCard
end Rows
end Go.Proofs.YtpoabnlebfjliaaDoor
