/-
  DERIVED. GIVEN WITH THE SEED: THE CARDS: each row of YtadpgoiiopfnnaaDoorRows.lean that lists a variable, with what it lists TIED to the program's text (the seventh form; the later family's looks); each row that meets fmt, with fmt's text TOLD by the authors' own Lean function (tested against real Go, not proved from fmt's source: count such statements apart). THE CARD IS WHAT COUNTS. Prove the row's statement (the work); the ties are given (YtadpgoiiopfnnaaDoorTie.lean); close each card by the builder's one call (the guide's Derived/Test/ToyasCard.lean, 'card_holds'). Laid BY PROGRAM, IN A SANDBOX (cutbox-door.mjs). By AI agents, Wed Nov 11 2026. No macro, syntax, notation, axiom, sorry.
-/
import Derived.Test.YtadpgoiiopfnnaaDoorRows
import GoSem.ClaimSeven
namespace Go.Proofs.YtadpgoiiopfnnaaDoor
namespace Rows

/-- THE TIED CARD OF 'laws.FnExactRemoveItem'. -/
def fnExactRemoveItemCard : Claim7 := { stood := { row := fnExactRemoveItemRow, standIns := [], harness := (true, "6f57b545d4f9e57b435d05265de83e53db3cb4bc9d4a24979640444e3d4d6513"), looks := false }, kinds := [], alts := [], laidByText := true, laidKinds := [.sentinel, .sentinel, .sentinel, .sentinel, .sentinel], laidTests := true, laidLooks := .later }
def FnExactRemoveItemCardSaid : Prop := Claim7.holds Tryd.pinned (.plain (OpenSpec.ofChange fnExactRemoveItemSpec)) fnExactRemoveItemCard

/-- THE TIED CARD OF 'laws.FnExactAddDeclaration'. -/
def fnExactAddDeclarationCard : Claim7 := { stood := { row := fnExactAddDeclarationRow, standIns := [], harness := (true, "6f57b545d4f9e57b435d05265de83e53db3cb4bc9d4a24979640444e3d4d6513"), looks := false }, kinds := [], alts := [], laidByText := true, laidKinds := [.sentinel, .sentinel, .sentinel, .sentinel, .sentinel, .sentinel, .sentinel, .sentinel], laidTests := true, laidLooks := .later }
def FnExactAddDeclarationCardSaid : Prop := Claim7.holds Tryd.pinned (.plain (OpenSpec.ofChange fnExactAddDeclarationSpec)) fnExactAddDeclarationCard

/-- THE TIED CARD OF 'laws.FnExactAddImport'. -/
def fnExactAddImportCard : Claim7 := { stood := { row := fnExactAddImportRow, standIns := [], harness := (true, "6f57b545d4f9e57b435d05265de83e53db3cb4bc9d4a24979640444e3d4d6513"), looks := false }, kinds := [], alts := [], laidByText := true, laidKinds := [.sentinel, .sentinel, .sentinel, .sentinel, .sentinel, .sentinel, .sentinel, .sentinel], laidTests := true, laidLooks := .later }
def FnExactAddImportCardSaid : Prop := Claim7.holds Tryd.pinned (.plain (OpenSpec.ofChange fnExactAddImportSpec)) fnExactAddImportCard

/-- THE TIED CARD OF 'laws.FnExactMoveItem'. -/
def fnExactMoveItemCard : Claim7 := { stood := { row := fnExactMoveItemRow, standIns := [], harness := (true, "6f57b545d4f9e57b435d05265de83e53db3cb4bc9d4a24979640444e3d4d6513"), looks := false }, kinds := [], alts := [], laidByText := true, laidKinds := [.sentinel, .sentinel, .sentinel, .sentinel, .sentinel, .sentinel, .sentinel, .sentinel, .sentinel, .sentinel], laidTests := true, laidLooks := .later }
def FnExactMoveItemCardSaid : Prop := Claim7.holds Tryd.pinned (.plain (OpenSpec.ofChange fnExactMoveItemSpec)) fnExactMoveItemCard

/-- THE TIED CARD OF 'laws.FnExactChangedBy'. -/
def fnExactChangedByCard : Claim7 := { stood := { row := fnExactChangedByRow, standIns := [], harness := (true, "6f57b545d4f9e57b435d05265de83e53db3cb4bc9d4a24979640444e3d4d6513"), looks := false }, kinds := [], alts := [], laidByText := true, laidKinds := [.sentinel, .sentinel, .sentinel, .sentinel, .sentinel], laidTests := true, laidLooks := .later }
def FnExactChangedByCardSaid : Prop := Claim7.holds Tryd.pinned (.plain (OpenSpec.ofChange fnExactChangedBySpec)) fnExactChangedByCard

/-- THE TIED CARD OF 'laws.FnExactCapturedBy'. -/
def fnExactCapturedByCard : Claim7 := { stood := { row := fnExactCapturedByRow, standIns := [], harness := (true, "6f57b545d4f9e57b435d05265de83e53db3cb4bc9d4a24979640444e3d4d6513"), looks := false }, kinds := [], alts := [], laidByText := true, laidKinds := [.sentinel, .sentinel, .sentinel, .sentinel, .sentinel, .sentinel, .sentinel, .sentinel], laidTests := true, laidLooks := .later }
def FnExactCapturedByCardSaid : Prop := Claim7.holds Tryd.pinned (.plain (OpenSpec.ofChange fnExactCapturedBySpec)) fnExactCapturedByCard

/-- THE TIED CARD OF 'laws.FnExactImportChanges'. -/
def fnExactImportChangesCard : Claim7 := { stood := { row := fnExactImportChangesRow, standIns := [], harness := (true, "6f57b545d4f9e57b435d05265de83e53db3cb4bc9d4a24979640444e3d4d6513"), looks := false }, kinds := [], alts := [], laidByText := true, laidKinds := [.sentinel, .sentinel, .sentinel, .sentinel, .sentinel, .sentinel, .sentinel, .sentinel], laidTests := true, laidLooks := .later }
def FnExactImportChangesCardSaid : Prop := Claim7.holds Tryd.pinned (.plain (OpenSpec.ofChange fnExactImportChangesSpec)) fnExactImportChangesCard

/-- THE TIED CARD OF 'laws.FnExactCanRemove'. -/
def fnExactCanRemoveCard : Claim7 := { stood := { row := fnExactCanRemoveRow, standIns := [], harness := (true, "6f57b545d4f9e57b435d05265de83e53db3cb4bc9d4a24979640444e3d4d6513"), looks := false }, kinds := [], alts := [], laidByText := true, laidKinds := [.sentinel, .sentinel, .sentinel, .sentinel, .sentinel], laidTests := true, laidLooks := .later }
def FnExactCanRemoveCardSaid : Prop := Claim7.holds Tryd.pinned (.plain (OpenSpec.ofChange fnExactCanRemoveSpec)) fnExactCanRemoveCard

/-- THE TIED CARD OF 'laws.FnExactCanAdd'. -/
def fnExactCanAddCard : Claim7 := { stood := { row := fnExactCanAddRow, standIns := [], harness := (true, "6f57b545d4f9e57b435d05265de83e53db3cb4bc9d4a24979640444e3d4d6513"), looks := false }, kinds := [], alts := [], laidByText := true, laidKinds := [.sentinel, .sentinel, .sentinel, .sentinel, .sentinel, .sentinel, .sentinel, .sentinel], laidTests := true, laidLooks := .later }
def FnExactCanAddCardSaid : Prop := Claim7.holds Tryd.pinned (.plain (OpenSpec.ofChange fnExactCanAddSpec)) fnExactCanAddCard

/-- THE TIED CARD OF 'laws.FnExactCanMove'. -/
def fnExactCanMoveCard : Claim7 := { stood := { row := fnExactCanMoveRow, standIns := [], harness := (true, "6f57b545d4f9e57b435d05265de83e53db3cb4bc9d4a24979640444e3d4d6513"), looks := false }, kinds := [], alts := [], laidByText := true, laidKinds := [.sentinel, .sentinel, .sentinel, .sentinel, .sentinel, .sentinel, .sentinel, .sentinel, .sentinel, .sentinel], laidTests := true, laidLooks := .later }
def FnExactCanMoveCardSaid : Prop := Claim7.holds Tryd.pinned (.plain (OpenSpec.ofChange fnExactCanMoveSpec)) fnExactCanMoveCard

/-- THE TIED CARD OF 'laws.FnExactAddableNames'. -/
def fnExactAddableNamesCard : Claim7 := { stood := { row := fnExactAddableNamesRow, standIns := [], harness := (true, "6f57b545d4f9e57b435d05265de83e53db3cb4bc9d4a24979640444e3d4d6513"), looks := false }, kinds := [], alts := [], laidByText := true, laidKinds := [.sentinel, .sentinel, .sentinel, .sentinel, .sentinel, .sentinel, .sentinel, .sentinel], laidTests := true, laidLooks := .later }
def FnExactAddableNamesCardSaid : Prop := Claim7.holds Tryd.pinned (.plain (OpenSpec.ofChange fnExactAddableNamesSpec)) fnExactAddableNamesCard

/-- THE TIED CARD OF 'laws.FnResolve'. -/
def fnResolveCard : Claim7 := { stood := { row := fnResolveRow, standIns := [], harness := (true, "6f57b545d4f9e57b435d05265de83e53db3cb4bc9d4a24979640444e3d4d6513"), looks := false }, kinds := [], alts := [], laidByText := true, laidKinds := [.sentinel, .sentinel, .sentinel, .sentinel, .sentinel, .sentinel, .sentinel, .data], laidTests := true, laidLooks := .later }
def FnResolveCardSaid : Prop := Claim7.holds Tryd.pinned (.plain (OpenSpec.ofChange fnResolveSpec)) fnResolveCard

/-- THE SECOND FORM's CARD OF 'laws.FnExactRemoveItem'. -/
def fnExactRemoveItemUptoCard : Claim7 := { stood := { row := fnExactRemoveItemUptoRow, standIns := [], harness := (true, "6f57b545d4f9e57b435d05265de83e53db3cb4bc9d4a24979640444e3d4d6513"), looks := false }, kinds := [], alts := [], laidByText := true, laidKinds := [.sentinel, .sentinel, .sentinel, .sentinel, .sentinel], laidTests := true, laidLooks := .later }
def FnExactRemoveItemUptoCardSaid : Prop := Claim7.holds Tryd.pinned (.plain (OpenSpec.upto fnExactRemoveItemSpec)) fnExactRemoveItemUptoCard

/-- THE SECOND FORM's CARD OF 'laws.FnExactAddDeclaration'. -/
def fnExactAddDeclarationUptoCard : Claim7 := { stood := { row := fnExactAddDeclarationUptoRow, standIns := [], harness := (true, "6f57b545d4f9e57b435d05265de83e53db3cb4bc9d4a24979640444e3d4d6513"), looks := false }, kinds := [], alts := [], laidByText := true, laidKinds := [.sentinel, .sentinel, .sentinel, .sentinel, .sentinel, .sentinel, .sentinel, .sentinel], laidTests := true, laidLooks := .later }
def FnExactAddDeclarationUptoCardSaid : Prop := Claim7.holds Tryd.pinned (.plain (OpenSpec.upto fnExactAddDeclarationSpec)) fnExactAddDeclarationUptoCard

/-- THE SECOND FORM's CARD OF 'laws.FnExactAddImport'. -/
def fnExactAddImportUptoCard : Claim7 := { stood := { row := fnExactAddImportUptoRow, standIns := [], harness := (true, "6f57b545d4f9e57b435d05265de83e53db3cb4bc9d4a24979640444e3d4d6513"), looks := false }, kinds := [], alts := [], laidByText := true, laidKinds := [.sentinel, .sentinel, .sentinel, .sentinel, .sentinel, .sentinel, .sentinel, .sentinel], laidTests := true, laidLooks := .later }
def FnExactAddImportUptoCardSaid : Prop := Claim7.holds Tryd.pinned (.plain (OpenSpec.upto fnExactAddImportSpec)) fnExactAddImportUptoCard

/-- THE SECOND FORM's CARD OF 'laws.FnExactMoveItem'. -/
def fnExactMoveItemUptoCard : Claim7 := { stood := { row := fnExactMoveItemUptoRow, standIns := [], harness := (true, "6f57b545d4f9e57b435d05265de83e53db3cb4bc9d4a24979640444e3d4d6513"), looks := false }, kinds := [], alts := [], laidByText := true, laidKinds := [.sentinel, .sentinel, .sentinel, .sentinel, .sentinel, .sentinel, .sentinel, .sentinel, .sentinel, .sentinel], laidTests := true, laidLooks := .later }
def FnExactMoveItemUptoCardSaid : Prop := Claim7.holds Tryd.pinned (.plain (OpenSpec.upto fnExactMoveItemSpec)) fnExactMoveItemUptoCard

/-- THE SECOND FORM's CARD OF 'laws.FnExactChangedBy'. -/
def fnExactChangedByUptoCard : Claim7 := { stood := { row := fnExactChangedByUptoRow, standIns := [], harness := (true, "6f57b545d4f9e57b435d05265de83e53db3cb4bc9d4a24979640444e3d4d6513"), looks := false }, kinds := [], alts := [], laidByText := true, laidKinds := [.sentinel, .sentinel, .sentinel, .sentinel, .sentinel], laidTests := true, laidLooks := .later }
def FnExactChangedByUptoCardSaid : Prop := Claim7.holds Tryd.pinned (.plain (OpenSpec.upto fnExactChangedBySpec)) fnExactChangedByUptoCard

/-- THE SECOND FORM's CARD OF 'laws.FnExactCapturedBy'. -/
def fnExactCapturedByUptoCard : Claim7 := { stood := { row := fnExactCapturedByUptoRow, standIns := [], harness := (true, "6f57b545d4f9e57b435d05265de83e53db3cb4bc9d4a24979640444e3d4d6513"), looks := false }, kinds := [], alts := [], laidByText := true, laidKinds := [.sentinel, .sentinel, .sentinel, .sentinel, .sentinel, .sentinel, .sentinel, .sentinel], laidTests := true, laidLooks := .later }
def FnExactCapturedByUptoCardSaid : Prop := Claim7.holds Tryd.pinned (.plain (OpenSpec.upto fnExactCapturedBySpec)) fnExactCapturedByUptoCard

/-- THE SECOND FORM's CARD OF 'laws.FnExactImportChanges'. -/
def fnExactImportChangesUptoCard : Claim7 := { stood := { row := fnExactImportChangesUptoRow, standIns := [], harness := (true, "6f57b545d4f9e57b435d05265de83e53db3cb4bc9d4a24979640444e3d4d6513"), looks := false }, kinds := [], alts := [], laidByText := true, laidKinds := [.sentinel, .sentinel, .sentinel, .sentinel, .sentinel, .sentinel, .sentinel, .sentinel], laidTests := true, laidLooks := .later }
def FnExactImportChangesUptoCardSaid : Prop := Claim7.holds Tryd.pinned (.plain (OpenSpec.upto fnExactImportChangesSpec)) fnExactImportChangesUptoCard

/-- THE SECOND FORM's CARD OF 'laws.FnExactCanRemove'. -/
def fnExactCanRemoveUptoCard : Claim7 := { stood := { row := fnExactCanRemoveUptoRow, standIns := [], harness := (true, "6f57b545d4f9e57b435d05265de83e53db3cb4bc9d4a24979640444e3d4d6513"), looks := false }, kinds := [], alts := [], laidByText := true, laidKinds := [.sentinel, .sentinel, .sentinel, .sentinel, .sentinel], laidTests := true, laidLooks := .later }
def FnExactCanRemoveUptoCardSaid : Prop := Claim7.holds Tryd.pinned (.plain (OpenSpec.upto fnExactCanRemoveSpec)) fnExactCanRemoveUptoCard

/-- THE SECOND FORM's CARD OF 'laws.FnExactCanAdd'. -/
def fnExactCanAddUptoCard : Claim7 := { stood := { row := fnExactCanAddUptoRow, standIns := [], harness := (true, "6f57b545d4f9e57b435d05265de83e53db3cb4bc9d4a24979640444e3d4d6513"), looks := false }, kinds := [], alts := [], laidByText := true, laidKinds := [.sentinel, .sentinel, .sentinel, .sentinel, .sentinel, .sentinel, .sentinel, .sentinel], laidTests := true, laidLooks := .later }
def FnExactCanAddUptoCardSaid : Prop := Claim7.holds Tryd.pinned (.plain (OpenSpec.upto fnExactCanAddSpec)) fnExactCanAddUptoCard

/-- THE SECOND FORM's CARD OF 'laws.FnExactCanMove'. -/
def fnExactCanMoveUptoCard : Claim7 := { stood := { row := fnExactCanMoveUptoRow, standIns := [], harness := (true, "6f57b545d4f9e57b435d05265de83e53db3cb4bc9d4a24979640444e3d4d6513"), looks := false }, kinds := [], alts := [], laidByText := true, laidKinds := [.sentinel, .sentinel, .sentinel, .sentinel, .sentinel, .sentinel, .sentinel, .sentinel, .sentinel, .sentinel], laidTests := true, laidLooks := .later }
def FnExactCanMoveUptoCardSaid : Prop := Claim7.holds Tryd.pinned (.plain (OpenSpec.upto fnExactCanMoveSpec)) fnExactCanMoveUptoCard

/-- THE SECOND FORM's CARD OF 'laws.FnExactAddableNames'. -/
def fnExactAddableNamesUptoCard : Claim7 := { stood := { row := fnExactAddableNamesUptoRow, standIns := [], harness := (true, "6f57b545d4f9e57b435d05265de83e53db3cb4bc9d4a24979640444e3d4d6513"), looks := false }, kinds := [], alts := [], laidByText := true, laidKinds := [.sentinel, .sentinel, .sentinel, .sentinel, .sentinel, .sentinel, .sentinel, .sentinel], laidTests := true, laidLooks := .later }
def FnExactAddableNamesUptoCardSaid : Prop := Claim7.holds Tryd.pinned (.plain (OpenSpec.upto fnExactAddableNamesSpec)) fnExactAddableNamesUptoCard

/-- THE SECOND FORM's CARD OF 'laws.FnResolve'. -/
def fnResolveUptoCard : Claim7 := { stood := { row := fnResolveUptoRow, standIns := [], harness := (true, "6f57b545d4f9e57b435d05265de83e53db3cb4bc9d4a24979640444e3d4d6513"), looks := false }, kinds := [], alts := [], laidByText := true, laidKinds := [.sentinel, .sentinel, .sentinel, .sentinel, .sentinel, .sentinel, .sentinel, .data], laidTests := true, laidLooks := .later }
def FnResolveUptoCardSaid : Prop := Claim7.holds Tryd.pinned (.plain (OpenSpec.upto fnResolveSpec)) fnResolveUptoCard
end Rows
end Go.Proofs.YtadpgoiiopfnnaaDoor
