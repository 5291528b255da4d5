/-
  DERIVED. GIVEN WITH THE SEED: THE CARDS: each row of YtimcobenmgbciaaGreatDoorRows.lean that lists a variable, with what it lists TIED to the program's text (the seventh form; the later family's looks); each row that meets fmt, with fmt's text TOLD by the authors' own Lean function (tested against real Go, not proved from fmt's source: count such statements apart). THE CARD IS WHAT COUNTS. Prove the row's statement (the work); the ties are given (YtimcobenmgbciaaGreatDoorTie.lean); close each card by the builder's one call (the guide's Derived/Test/ToyasCard.lean, 'card_holds'). Laid BY PROGRAM, IN A SANDBOX (cutbox-door.mjs). By AI agents, Wed Nov 11 2026. No macro, syntax, notation, axiom, sorry.
-/
import Derived.Test.YtimcobenmgbciaaGreatDoorRows
import GoSem.ClaimSeven
namespace Go.Proofs.YtimcobenmgbciaaGreatDoor
namespace Rows

/-- THE TIED CARD OF 'laws.FnExactGoodNames'. -/
def fnExactGoodNamesCard : Claim7 := { stood := { row := fnExactGoodNamesRow, standIns := [], harness := (true, "011056345d4733169c47cc4afb2d1a2a787be7e9ef7feac4d649eb6a14af1dcd"), looks := false }, kinds := [], alts := [], laidByText := true, laidKinds := [.sentinel, .sentinel, .sentinel, .sentinel, .sentinel, .sentinel], laidTests := true, laidLooks := .later }
def FnExactGoodNamesCardSaid : Prop := Claim7.holds Tryz.pinned (.plain (OpenSpec.ofChange fnExactGoodNamesSpec)) fnExactGoodNamesCard

/-- THE TIED CARD OF 'laws.FnExactRenameChanges'. -/
def fnExactRenameChangesCard : Claim7 := { stood := { row := fnExactRenameChangesRow, standIns := [], harness := (true, "011056345d4733169c47cc4afb2d1a2a787be7e9ef7feac4d649eb6a14af1dcd"), looks := false }, kinds := [], alts := [], laidByText := true, laidKinds := [.sentinel, .sentinel, .sentinel, .sentinel, .sentinel], laidTests := true, laidLooks := .later }
def FnExactRenameChangesCardSaid : Prop := Claim7.holds Tryz.pinned (.plain (OpenSpec.ofChange fnExactRenameChangesSpec)) fnExactRenameChangesCard

/-- THE SECOND FORM's CARD OF 'laws.FnExactGoodNames'. -/
def fnExactGoodNamesUptoCard : Claim7 := { stood := { row := fnExactGoodNamesUptoRow, standIns := [], harness := (true, "011056345d4733169c47cc4afb2d1a2a787be7e9ef7feac4d649eb6a14af1dcd"), looks := false }, kinds := [], alts := [], laidByText := true, laidKinds := [.sentinel, .sentinel, .sentinel, .sentinel, .sentinel, .sentinel], laidTests := true, laidLooks := .later }
def FnExactGoodNamesUptoCardSaid : Prop := Claim7.holds Tryz.pinned (.plain (OpenSpec.upto fnExactGoodNamesSpec)) fnExactGoodNamesUptoCard

/-- THE SECOND FORM's CARD OF 'laws.FnExactRenameChanges'. -/
def fnExactRenameChangesUptoCard : Claim7 := { stood := { row := fnExactRenameChangesUptoRow, standIns := [], harness := (true, "011056345d4733169c47cc4afb2d1a2a787be7e9ef7feac4d649eb6a14af1dcd"), looks := false }, kinds := [], alts := [], laidByText := true, laidKinds := [.sentinel, .sentinel, .sentinel, .sentinel, .sentinel], laidTests := true, laidLooks := .later }
def FnExactRenameChangesUptoCardSaid : Prop := Claim7.holds Tryz.pinned (.plain (OpenSpec.upto fnExactRenameChangesSpec)) fnExactRenameChangesUptoCard
end Rows
end Go.Proofs.YtimcobenmgbciaaGreatDoor
