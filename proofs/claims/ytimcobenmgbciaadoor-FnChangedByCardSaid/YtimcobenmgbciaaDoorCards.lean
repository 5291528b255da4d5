/-
  DERIVED. GIVEN WITH THE SEED: THE CARDS: each row of YtimcobenmgbciaaDoorRows.lean that lists a variable, with what it lists TIED to the program's text (the seventh form; the later family's looks); each row that meets fmt, with fmt's text TOLD by the authors' own Lean function (tested against real Go, not proved from fmt's source: count such statements apart). THE CARD IS WHAT COUNTS. Prove the row's statement (the work); the ties are given (YtimcobenmgbciaaDoorTie.lean); close each card by the builder's one call (the guide's Derived/Test/ToyasCard.lean, 'card_holds'). Laid BY PROGRAM, IN A SANDBOX (cutbox-door.mjs). By AI agents, Wed Nov 11 2026. No macro, syntax, notation, axiom, sorry.
-/
import Derived.Test.YtimcobenmgbciaaDoorRows
import GoSem.ClaimSeven
namespace Go.Proofs.YtimcobenmgbciaaDoor
namespace Rows

/-- THE TIED CARD OF 'laws.FnResolve'. -/
def fnResolveCard : Claim7 := { stood := { row := fnResolveRow, standIns := [], harness := (true, "b5bb78dfef69fcdec2105d490f3859f96b78d82a47b6d2e661c48cdf4bfe848f"), looks := false }, kinds := [], alts := [], laidByText := true, laidKinds := [.sentinel, .sentinel, .sentinel, .sentinel, .sentinel, .sentinel, .sentinel, .data], laidTests := true, laidLooks := .later }
def FnResolveCardSaid : Prop := Claim7.holds Tryd.pinned (.plain (OpenSpec.ofChange fnResolveSpec)) fnResolveCard

/-- THE TIED CARD OF 'laws.FnChangedBy'. -/
def fnChangedByCard : Claim7 := { stood := { row := fnChangedByRow, standIns := [], harness := (true, "b5bb78dfef69fcdec2105d490f3859f96b78d82a47b6d2e661c48cdf4bfe848f"), looks := false }, kinds := [], alts := [], laidByText := true, laidKinds := [.sentinel, .sentinel, .sentinel, .sentinel, .sentinel], laidTests := true, laidLooks := .later }
def FnChangedByCardSaid : Prop := Claim7.holds Tryd.pinned (.plain (OpenSpec.ofChange fnChangedBySpec)) fnChangedByCard

/-- THE TIED CARD OF 'laws.FnExactUsersOf'. -/
def fnExactUsersOfCard : Claim7 := { stood := { row := fnExactUsersOfRow, standIns := [], harness := (true, "b5bb78dfef69fcdec2105d490f3859f96b78d82a47b6d2e661c48cdf4bfe848f"), looks := false }, kinds := [], alts := [], laidByText := true, laidKinds := [.sentinel, .sentinel, .sentinel, .sentinel, .sentinel], laidTests := true, laidLooks := .later }
def FnExactUsersOfCardSaid : Prop := Claim7.holds Tryd.pinned (.plain (OpenSpec.ofChange fnExactUsersOfSpec)) fnExactUsersOfCard

/-- THE TIED CARD OF 'laws.FnExactRemoveUnused'. -/
def fnExactRemoveUnusedCard : Claim7 := { stood := { row := fnExactRemoveUnusedRow, standIns := [], harness := (true, "b5bb78dfef69fcdec2105d490f3859f96b78d82a47b6d2e661c48cdf4bfe848f"), looks := false }, kinds := [], alts := [], laidByText := true, laidKinds := [.sentinel, .sentinel, .sentinel, .sentinel, .sentinel], laidTests := true, laidLooks := .later }
def FnExactRemoveUnusedCardSaid : Prop := Claim7.holds Tryd.pinned (.plain (OpenSpec.ofChange fnExactRemoveUnusedSpec)) fnExactRemoveUnusedCard

/-- THE TIED CARD OF 'laws.FnExactRenameAt'. -/
def fnExactRenameAtCard : Claim7 := { stood := { row := fnExactRenameAtRow, standIns := [], harness := (true, "b5bb78dfef69fcdec2105d490f3859f96b78d82a47b6d2e661c48cdf4bfe848f"), looks := false }, kinds := [], alts := [], laidByText := true, laidKinds := [.sentinel, .sentinel, .sentinel, .sentinel, .sentinel], laidTests := true, laidLooks := .later }
def FnExactRenameAtCardSaid : Prop := Claim7.holds Tryd.pinned (.plain (OpenSpec.ofChange fnExactRenameAtSpec)) fnExactRenameAtCard

/-- THE TIED CARD OF 'laws.FnExactCanRename'. -/
def fnExactCanRenameCard : Claim7 := { stood := { row := fnExactCanRenameRow, standIns := [], harness := (true, "b5bb78dfef69fcdec2105d490f3859f96b78d82a47b6d2e661c48cdf4bfe848f"), looks := false }, kinds := [], alts := [], laidByText := true, laidKinds := [.sentinel, .sentinel, .sentinel, .sentinel, .sentinel], laidTests := true, laidLooks := .later }
def FnExactCanRenameCardSaid : Prop := Claim7.holds Tryd.pinned (.plain (OpenSpec.ofChange fnExactCanRenameSpec)) fnExactCanRenameCard

/-- THE TIED CARD OF 'laws.FnExactSwapNames'. -/
def fnExactSwapNamesCard : Claim7 := { stood := { row := fnExactSwapNamesRow, standIns := [], harness := (true, "b5bb78dfef69fcdec2105d490f3859f96b78d82a47b6d2e661c48cdf4bfe848f"), looks := false }, kinds := [], alts := [], laidByText := true, laidKinds := [.sentinel, .sentinel, .sentinel, .sentinel, .sentinel], laidTests := true, laidLooks := .later }
def FnExactSwapNamesCardSaid : Prop := Claim7.holds Tryd.pinned (.plain (OpenSpec.ofChange fnExactSwapNamesSpec)) fnExactSwapNamesCard

/-- THE TIED CARD OF 'laws.FnExactSameTable'. -/
def fnExactSameTableCard : Claim7 := { stood := { row := fnExactSameTableRow, standIns := [], harness := (true, "b5bb78dfef69fcdec2105d490f3859f96b78d82a47b6d2e661c48cdf4bfe848f"), looks := false }, kinds := [], alts := [], laidByText := true, laidKinds := [.sentinel, .sentinel, .sentinel, .sentinel, .sentinel], laidTests := true, laidLooks := .later }
def FnExactSameTableCardSaid : Prop := Claim7.holds Tryd.pinned (.plain (OpenSpec.ofChange fnExactSameTableSpec)) fnExactSameTableCard

/-- THE TIED CARD OF 'laws.FnExactSameShape'. -/
def fnExactSameShapeCard : Claim7 := { stood := { row := fnExactSameShapeRow, standIns := [], harness := (true, "b5bb78dfef69fcdec2105d490f3859f96b78d82a47b6d2e661c48cdf4bfe848f"), looks := false }, kinds := [], alts := [], laidByText := true, laidKinds := [.sentinel, .sentinel, .sentinel, .sentinel, .sentinel], laidTests := true, laidLooks := .later }
def FnExactSameShapeCardSaid : Prop := Claim7.holds Tryd.pinned (.plain (OpenSpec.ofChange fnExactSameShapeSpec)) fnExactSameShapeCard

/-- THE SECOND FORM's CARD OF 'laws.FnResolve'. -/
def fnResolveUptoCard : Claim7 := { stood := { row := fnResolveUptoRow, standIns := [], harness := (true, "b5bb78dfef69fcdec2105d490f3859f96b78d82a47b6d2e661c48cdf4bfe848f"), looks := false }, kinds := [], alts := [], laidByText := true, laidKinds := [.sentinel, .sentinel, .sentinel, .sentinel, .sentinel, .sentinel, .sentinel, .data], laidTests := true, laidLooks := .later }
def FnResolveUptoCardSaid : Prop := Claim7.holds Tryd.pinned (.plain (OpenSpec.upto fnResolveSpec)) fnResolveUptoCard

/-- THE SECOND FORM's CARD OF 'laws.FnChangedBy'. -/
def fnChangedByUptoCard : Claim7 := { stood := { row := fnChangedByUptoRow, standIns := [], harness := (true, "b5bb78dfef69fcdec2105d490f3859f96b78d82a47b6d2e661c48cdf4bfe848f"), looks := false }, kinds := [], alts := [], laidByText := true, laidKinds := [.sentinel, .sentinel, .sentinel, .sentinel, .sentinel], laidTests := true, laidLooks := .later }
def FnChangedByUptoCardSaid : Prop := Claim7.holds Tryd.pinned (.plain (OpenSpec.upto fnChangedBySpec)) fnChangedByUptoCard

/-- THE SECOND FORM's CARD OF 'laws.FnExactUsersOf'. -/
def fnExactUsersOfUptoCard : Claim7 := { stood := { row := fnExactUsersOfUptoRow, standIns := [], harness := (true, "b5bb78dfef69fcdec2105d490f3859f96b78d82a47b6d2e661c48cdf4bfe848f"), looks := false }, kinds := [], alts := [], laidByText := true, laidKinds := [.sentinel, .sentinel, .sentinel, .sentinel, .sentinel], laidTests := true, laidLooks := .later }
def FnExactUsersOfUptoCardSaid : Prop := Claim7.holds Tryd.pinned (.plain (OpenSpec.upto fnExactUsersOfSpec)) fnExactUsersOfUptoCard

/-- THE SECOND FORM's CARD OF 'laws.FnExactRemoveUnused'. -/
def fnExactRemoveUnusedUptoCard : Claim7 := { stood := { row := fnExactRemoveUnusedUptoRow, standIns := [], harness := (true, "b5bb78dfef69fcdec2105d490f3859f96b78d82a47b6d2e661c48cdf4bfe848f"), looks := false }, kinds := [], alts := [], laidByText := true, laidKinds := [.sentinel, .sentinel, .sentinel, .sentinel, .sentinel], laidTests := true, laidLooks := .later }
def FnExactRemoveUnusedUptoCardSaid : Prop := Claim7.holds Tryd.pinned (.plain (OpenSpec.upto fnExactRemoveUnusedSpec)) fnExactRemoveUnusedUptoCard

/-- THE SECOND FORM's CARD OF 'laws.FnExactRenameAt'. -/
def fnExactRenameAtUptoCard : Claim7 := { stood := { row := fnExactRenameAtUptoRow, standIns := [], harness := (true, "b5bb78dfef69fcdec2105d490f3859f96b78d82a47b6d2e661c48cdf4bfe848f"), looks := false }, kinds := [], alts := [], laidByText := true, laidKinds := [.sentinel, .sentinel, .sentinel, .sentinel, .sentinel], laidTests := true, laidLooks := .later }
def FnExactRenameAtUptoCardSaid : Prop := Claim7.holds Tryd.pinned (.plain (OpenSpec.upto fnExactRenameAtSpec)) fnExactRenameAtUptoCard

/-- THE SECOND FORM's CARD OF 'laws.FnExactCanRename'. -/
def fnExactCanRenameUptoCard : Claim7 := { stood := { row := fnExactCanRenameUptoRow, standIns := [], harness := (true, "b5bb78dfef69fcdec2105d490f3859f96b78d82a47b6d2e661c48cdf4bfe848f"), looks := false }, kinds := [], alts := [], laidByText := true, laidKinds := [.sentinel, .sentinel, .sentinel, .sentinel, .sentinel], laidTests := true, laidLooks := .later }
def FnExactCanRenameUptoCardSaid : Prop := Claim7.holds Tryd.pinned (.plain (OpenSpec.upto fnExactCanRenameSpec)) fnExactCanRenameUptoCard

/-- THE SECOND FORM's CARD OF 'laws.FnExactSwapNames'. -/
def fnExactSwapNamesUptoCard : Claim7 := { stood := { row := fnExactSwapNamesUptoRow, standIns := [], harness := (true, "b5bb78dfef69fcdec2105d490f3859f96b78d82a47b6d2e661c48cdf4bfe848f"), looks := false }, kinds := [], alts := [], laidByText := true, laidKinds := [.sentinel, .sentinel, .sentinel, .sentinel, .sentinel], laidTests := true, laidLooks := .later }
def FnExactSwapNamesUptoCardSaid : Prop := Claim7.holds Tryd.pinned (.plain (OpenSpec.upto fnExactSwapNamesSpec)) fnExactSwapNamesUptoCard

/-- THE SECOND FORM's CARD OF 'laws.FnExactSameTable'. -/
def fnExactSameTableUptoCard : Claim7 := { stood := { row := fnExactSameTableUptoRow, standIns := [], harness := (true, "b5bb78dfef69fcdec2105d490f3859f96b78d82a47b6d2e661c48cdf4bfe848f"), looks := false }, kinds := [], alts := [], laidByText := true, laidKinds := [.sentinel, .sentinel, .sentinel, .sentinel, .sentinel], laidTests := true, laidLooks := .later }
def FnExactSameTableUptoCardSaid : Prop := Claim7.holds Tryd.pinned (.plain (OpenSpec.upto fnExactSameTableSpec)) fnExactSameTableUptoCard

/-- THE SECOND FORM's CARD OF 'laws.FnExactSameShape'. -/
def fnExactSameShapeUptoCard : Claim7 := { stood := { row := fnExactSameShapeUptoRow, standIns := [], harness := (true, "b5bb78dfef69fcdec2105d490f3859f96b78d82a47b6d2e661c48cdf4bfe848f"), looks := false }, kinds := [], alts := [], laidByText := true, laidKinds := [.sentinel, .sentinel, .sentinel, .sentinel, .sentinel], laidTests := true, laidLooks := .later }
def FnExactSameShapeUptoCardSaid : Prop := Claim7.holds Tryd.pinned (.plain (OpenSpec.upto fnExactSameShapeSpec)) fnExactSameShapeUptoCard
end Rows
end Go.Proofs.YtimcobenmgbciaaDoor
