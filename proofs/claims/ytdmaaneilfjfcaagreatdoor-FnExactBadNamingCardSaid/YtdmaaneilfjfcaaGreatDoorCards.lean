/-
  DERIVED. GIVEN WITH THE SEED: THE CARDS: each row of YtdmaaneilfjfcaaGreatDoorRows.lean that lists a variable, with what it lists TIED to the program's text (the seventh form; the later family's looks); each row that meets fmt, with fmt's text TOLD by the authors' own Lean function (tested against real Go, not proved from fmt's source: count such statements apart). THE CARD IS WHAT COUNTS. Prove the row's statement (the work); the ties are given (YtdmaaneilfjfcaaGreatDoorTie.lean); close each card by the builder's one call (the guide's Derived/Test/ToyasCard.lean, 'card_holds'). Laid BY PROGRAM, IN A SANDBOX (cutbox-door.mjs). By AI agents, Wed Nov 11 2026. No macro, syntax, notation, axiom, sorry.
-/
import Derived.Test.YtdmaaneilfjfcaaGreatDoorRows
import GoSem.ClaimSeven
namespace Go.Proofs.YtdmaaneilfjfcaaGreatDoor
namespace Rows

/-- THE TIED CARD OF 'laws.FnFindPath'. -/
def fnFindPathCard : Claim7 := { stood := { row := fnFindPathRow, standIns := [], harness := (true, "0973b96f95993f4d99dab4a9cce25b8c05e067d995d4cbfae0e1d736389d6dee"), looks := false }, kinds := [], alts := [], laidByText := true, laidKinds := [.data, .data, .data, .sentinel, .sentinel, .sentinel, .sentinel, .sentinel, .sentinel, .sentinel], laidTests := true, laidLooks := .later }
def FnFindPathCardSaid : Prop := Claim7.holds Tryz.pinned (.plain (OpenSpec.ofChange fnFindPathSpec)) fnFindPathCard

/-- THE TIED CARD OF 'laws.FnFresh'. -/
def fnFreshCard : Claim7 := { stood := { row := fnFreshRow, standIns := [], harness := (true, "0973b96f95993f4d99dab4a9cce25b8c05e067d995d4cbfae0e1d736389d6dee"), looks := false }, kinds := [], alts := [], laidByText := true, laidKinds := [.data, .data, .data, .sentinel, .sentinel, .sentinel, .sentinel, .sentinel, .sentinel, .sentinel], laidTests := true, laidLooks := .later }
def FnFreshCardSaid : Prop := Claim7.holds Tryz.pinned (.plain (OpenSpec.ofChange fnFreshSpec)) fnFreshCard

/-- THE TIED CARD OF 'laws.FnNamed'. -/
def fnNamedCard : Claim7 := { stood := { row := fnNamedRow, standIns := [], harness := (true, "0973b96f95993f4d99dab4a9cce25b8c05e067d995d4cbfae0e1d736389d6dee"), looks := false }, kinds := [], alts := [], laidByText := true, laidKinds := [.data, .data, .data, .sentinel, .sentinel, .sentinel, .sentinel, .sentinel, .sentinel, .sentinel], laidTests := true, laidLooks := .later }
def FnNamedCardSaid : Prop := Claim7.holds Tryz.pinned (.plain (OpenSpec.ofChange fnNamedSpec)) fnNamedCard

/-- THE TIED CARD OF 'laws.FnExactBadNaming'. -/
def fnExactBadNamingCard : Claim7 := { stood := { row := fnExactBadNamingRow, standIns := [], harness := (true, "0973b96f95993f4d99dab4a9cce25b8c05e067d995d4cbfae0e1d736389d6dee"), looks := false }, kinds := [], alts := [], laidByText := true, laidKinds := [.sentinel, .sentinel, .sentinel, .sentinel, .sentinel, .sentinel, .sentinel], laidTests := true, laidLooks := .later }
def FnExactBadNamingCardSaid : Prop := Claim7.holds Tryz.pinned (.plain (OpenSpec.ofChange fnExactBadNamingSpec)) fnExactBadNamingCard

/-- THE SECOND FORM's CARD OF 'laws.FnFindPath'. -/
def fnFindPathUptoCard : Claim7 := { stood := { row := fnFindPathUptoRow, standIns := [], harness := (true, "0973b96f95993f4d99dab4a9cce25b8c05e067d995d4cbfae0e1d736389d6dee"), looks := false }, kinds := [], alts := [], laidByText := true, laidKinds := [.data, .data, .data, .sentinel, .sentinel, .sentinel, .sentinel, .sentinel, .sentinel, .sentinel], laidTests := true, laidLooks := .later }
def FnFindPathUptoCardSaid : Prop := Claim7.holds Tryz.pinned (.plain (OpenSpec.upto fnFindPathSpec)) fnFindPathUptoCard

/-- THE SECOND FORM's CARD OF 'laws.FnFresh'. -/
def fnFreshUptoCard : Claim7 := { stood := { row := fnFreshUptoRow, standIns := [], harness := (true, "0973b96f95993f4d99dab4a9cce25b8c05e067d995d4cbfae0e1d736389d6dee"), looks := false }, kinds := [], alts := [], laidByText := true, laidKinds := [.data, .data, .data, .sentinel, .sentinel, .sentinel, .sentinel, .sentinel, .sentinel, .sentinel], laidTests := true, laidLooks := .later }
def FnFreshUptoCardSaid : Prop := Claim7.holds Tryz.pinned (.plain (OpenSpec.upto fnFreshSpec)) fnFreshUptoCard

/-- THE SECOND FORM's CARD OF 'laws.FnNamed'. -/
def fnNamedUptoCard : Claim7 := { stood := { row := fnNamedUptoRow, standIns := [], harness := (true, "0973b96f95993f4d99dab4a9cce25b8c05e067d995d4cbfae0e1d736389d6dee"), looks := false }, kinds := [], alts := [], laidByText := true, laidKinds := [.data, .data, .data, .sentinel, .sentinel, .sentinel, .sentinel, .sentinel, .sentinel, .sentinel], laidTests := true, laidLooks := .later }
def FnNamedUptoCardSaid : Prop := Claim7.holds Tryz.pinned (.plain (OpenSpec.upto fnNamedSpec)) fnNamedUptoCard

/-- THE SECOND FORM's CARD OF 'laws.FnExactBadNaming'. -/
def fnExactBadNamingUptoCard : Claim7 := { stood := { row := fnExactBadNamingUptoRow, standIns := [], harness := (true, "0973b96f95993f4d99dab4a9cce25b8c05e067d995d4cbfae0e1d736389d6dee"), looks := false }, kinds := [], alts := [], laidByText := true, laidKinds := [.sentinel, .sentinel, .sentinel, .sentinel, .sentinel, .sentinel, .sentinel], laidTests := true, laidLooks := .later }
def FnExactBadNamingUptoCardSaid : Prop := Claim7.holds Tryz.pinned (.plain (OpenSpec.upto fnExactBadNamingSpec)) fnExactBadNamingUptoCard
end Rows
end Go.Proofs.YtdmaaneilfjfcaaGreatDoor
