/-
  DERIVED. GIVEN WITH THE SEED: THE CARDS: each row of YtjogfagjcpcihaaGreatDoorRows.lean that lists a variable, with what it lists TIED to the program's text (the seventh form; the later family's looks); each row that meets fmt, with fmt's text TOLD by the authors' own Lean function (tested against real Go, not proved from fmt's source: count such statements apart). THE CARD IS WHAT COUNTS. Prove the row's statement (the work); the ties are given (YtjogfagjcpcihaaGreatDoorTie.lean); close each card by the builder's one call (the guide's Derived/Test/ToyasCard.lean, 'card_holds'). Laid BY PROGRAM, IN A SANDBOX (cutbox-door.mjs). By AI agents, Wed Nov 11 2026. No macro, syntax, notation, axiom, sorry.
-/
import Derived.Test.YtjogfagjcpcihaaGreatDoorRows
import GoSem.ClaimSeven
namespace Go.Proofs.YtjogfagjcpcihaaGreatDoor
namespace Rows

/-- THE TIED CARD OF 'laws.FnPlaceText'. -/
def fnPlaceTextCard : Claim7 := { stood := { row := fnPlaceTextRow, standIns := [], harness := (true, "593dda408410fba43b31a0982afe08b65a8bc6d8df2fc0b5eb37999fa62b2d81"), looks := true }, kinds := [], alts := [], laidByText := true, laidKinds := [.data, .data, .data, .sentinel, .sentinel, .sentinel, .sentinel, .sentinel, .sentinel, .sentinel, .sentinel], laidTests := true, laidLooks := .later }
def FnPlaceTextCardSaid : Prop := Claim7.holds Tryz.pinned (.plain (OpenSpec.ofChange fnPlaceTextSpec)) fnPlaceTextCard

/-- THE TIED CARD OF 'laws.FnFindPath'. -/
def fnFindPathCard : Claim7 := { stood := { row := fnFindPathRow, standIns := [], harness := (true, "593dda408410fba43b31a0982afe08b65a8bc6d8df2fc0b5eb37999fa62b2d81"), looks := true }, kinds := [], alts := [], laidByText := true, laidKinds := [.data, .data, .data, .sentinel, .sentinel, .sentinel, .sentinel, .sentinel, .sentinel, .sentinel], laidTests := true, laidLooks := .later }
def FnFindPathCardSaid : Prop := Claim7.holds Tryz.pinned (.plain (OpenSpec.ofChange fnFindPathSpec)) fnFindPathCard

/-- THE TIED CARD OF 'laws.FnShare'. -/
def fnShareCard : Claim7 := { stood := { row := fnShareRow, standIns := [], harness := (true, "593dda408410fba43b31a0982afe08b65a8bc6d8df2fc0b5eb37999fa62b2d81"), looks := true }, kinds := [], alts := [], laidByText := true, laidKinds := [.sentinel, .sentinel, .sentinel, .sentinel, .sentinel, .sentinel, .sentinel, .sentinel], laidTests := true, laidLooks := .later }
def FnShareCardSaid : Prop := Claim7.holds Tryz.pinned (.plain (OpenSpec.ofChange fnShareSpec)) fnShareCard

/-- THE SECOND FORM's CARD OF 'laws.FnPlaceText'. -/
def fnPlaceTextUptoCard : Claim7 := { stood := { row := fnPlaceTextUptoRow, standIns := [], harness := (true, "593dda408410fba43b31a0982afe08b65a8bc6d8df2fc0b5eb37999fa62b2d81"), looks := true }, kinds := [], alts := [], laidByText := true, laidKinds := [.data, .data, .data, .sentinel, .sentinel, .sentinel, .sentinel, .sentinel, .sentinel, .sentinel, .sentinel], laidTests := true, laidLooks := .later }
def FnPlaceTextUptoCardSaid : Prop := Claim7.holds Tryz.pinned (.plain (OpenSpec.upto fnPlaceTextSpec)) fnPlaceTextUptoCard

/-- THE SECOND FORM's CARD OF 'laws.FnFindPath'. -/
def fnFindPathUptoCard : Claim7 := { stood := { row := fnFindPathUptoRow, standIns := [], harness := (true, "593dda408410fba43b31a0982afe08b65a8bc6d8df2fc0b5eb37999fa62b2d81"), looks := true }, kinds := [], alts := [], laidByText := true, laidKinds := [.data, .data, .data, .sentinel, .sentinel, .sentinel, .sentinel, .sentinel, .sentinel, .sentinel], laidTests := true, laidLooks := .later }
def FnFindPathUptoCardSaid : Prop := Claim7.holds Tryz.pinned (.plain (OpenSpec.upto fnFindPathSpec)) fnFindPathUptoCard

/-- THE SECOND FORM's CARD OF 'laws.FnShare'. -/
def fnShareUptoCard : Claim7 := { stood := { row := fnShareUptoRow, standIns := [], harness := (true, "593dda408410fba43b31a0982afe08b65a8bc6d8df2fc0b5eb37999fa62b2d81"), looks := true }, kinds := [], alts := [], laidByText := true, laidKinds := [.sentinel, .sentinel, .sentinel, .sentinel, .sentinel, .sentinel, .sentinel, .sentinel], laidTests := true, laidLooks := .later }
def FnShareUptoCardSaid : Prop := Claim7.holds Tryz.pinned (.plain (OpenSpec.upto fnShareSpec)) fnShareUptoCard
end Rows
end Go.Proofs.YtjogfagjcpcihaaGreatDoor
