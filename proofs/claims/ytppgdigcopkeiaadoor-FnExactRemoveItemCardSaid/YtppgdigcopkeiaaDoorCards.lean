/-
  DERIVED. GIVEN WITH THE SEED: THE CARDS: each row of YtppgdigcopkeiaaDoorRows.lean that lists a variable, with what it lists TIED to the program's text (the seventh form; the later family's looks); each row that meets fmt, with fmt's text TOLD by the authors' own Lean function (tested against real Go, not proved from fmt's source: count such statements apart). THE CARD IS WHAT COUNTS. Prove the row's statement (the work); the ties are given (YtppgdigcopkeiaaDoorTie.lean); close each card by the builder's one call (the guide's Derived/Test/ToyasCard.lean, 'card_holds'). Laid BY PROGRAM, IN A SANDBOX (cutbox-door.mjs). By AI agents, Wed Nov 11 2026. No macro, syntax, notation, axiom, sorry.
-/
import Derived.Test.YtppgdigcopkeiaaDoorRows
import GoSem.ClaimSeven
namespace Go.Proofs.YtppgdigcopkeiaaDoor
namespace Rows

/-- THE TIED CARD OF 'laws.FnExactRemoveItem'. -/
def fnExactRemoveItemCard : Claim7 := { stood := { row := fnExactRemoveItemRow, standIns := [], harness := (true, "e4dab82343ce530ac117d79bc03aa12e7e3579a367399487e0dede59c69d901b"), looks := false }, kinds := [], alts := [], laidByText := true, laidKinds := [.sentinel, .sentinel, .sentinel, .sentinel, .sentinel], laidTests := true, laidLooks := .later }
def FnExactRemoveItemCardSaid : Prop := Claim7.holds Tryd.pinned (.plain (OpenSpec.ofChange fnExactRemoveItemSpec)) fnExactRemoveItemCard

/-- THE TIED CARD OF 'laws.FnExactUsersOf'. -/
def fnExactUsersOfCard : Claim7 := { stood := { row := fnExactUsersOfRow, standIns := [], harness := (true, "e4dab82343ce530ac117d79bc03aa12e7e3579a367399487e0dede59c69d901b"), looks := false }, kinds := [], alts := [], laidByText := true, laidKinds := [.sentinel, .sentinel, .sentinel, .sentinel, .sentinel], laidTests := true, laidLooks := .later }
def FnExactUsersOfCardSaid : Prop := Claim7.holds Tryd.pinned (.plain (OpenSpec.ofChange fnExactUsersOfSpec)) fnExactUsersOfCard

/-- THE TIED CARD OF 'laws.FnExactChangedBy'. -/
def fnExactChangedByCard : Claim7 := { stood := { row := fnExactChangedByRow, standIns := [], harness := (true, "e4dab82343ce530ac117d79bc03aa12e7e3579a367399487e0dede59c69d901b"), looks := false }, kinds := [], alts := [], laidByText := true, laidKinds := [.sentinel, .sentinel, .sentinel, .sentinel, .sentinel, .sentinel], laidTests := true, laidLooks := .later }
def FnExactChangedByCardSaid : Prop := Claim7.holds Tryd.pinned (.plain (OpenSpec.ofChange fnExactChangedBySpec)) fnExactChangedByCard

/-- THE TIED CARD OF 'laws.FnExactCanRemove'. -/
def fnExactCanRemoveCard : Claim7 := { stood := { row := fnExactCanRemoveRow, standIns := [], harness := (true, "e4dab82343ce530ac117d79bc03aa12e7e3579a367399487e0dede59c69d901b"), looks := false }, kinds := [], alts := [], laidByText := true, laidKinds := [.sentinel, .sentinel, .sentinel, .sentinel, .sentinel, .sentinel], laidTests := true, laidLooks := .later }
def FnExactCanRemoveCardSaid : Prop := Claim7.holds Tryd.pinned (.plain (OpenSpec.ofChange fnExactCanRemoveSpec)) fnExactCanRemoveCard

/-- THE TIED CARD OF 'laws.FnExactRemoveUnused'. -/
def fnExactRemoveUnusedCard : Claim7 := { stood := { row := fnExactRemoveUnusedRow, standIns := [], harness := (true, "e4dab82343ce530ac117d79bc03aa12e7e3579a367399487e0dede59c69d901b"), looks := false }, kinds := [], alts := [], laidByText := true, laidKinds := [.sentinel, .sentinel, .sentinel, .sentinel, .sentinel, .sentinel], laidTests := true, laidLooks := .later }
def FnExactRemoveUnusedCardSaid : Prop := Claim7.holds Tryd.pinned (.plain (OpenSpec.ofChange fnExactRemoveUnusedSpec)) fnExactRemoveUnusedCard

/-- THE TIED CARD OF 'laws.FnVisible'. -/
def fnVisibleCard : Claim7 := { stood := { row := fnVisibleRow, standIns := [], harness := (true, "e4dab82343ce530ac117d79bc03aa12e7e3579a367399487e0dede59c69d901b"), looks := false }, kinds := [], alts := [], laidByText := true, laidKinds := [.sentinel, .sentinel, .sentinel, .sentinel, .sentinel, .sentinel, .sentinel], laidTests := true, laidLooks := .later }
def FnVisibleCardSaid : Prop := Claim7.holds Tryd.pinned (.plain (OpenSpec.ofChange fnVisibleSpec)) fnVisibleCard

/-- THE TIED CARD OF 'laws.FnSeen'. -/
def fnSeenCard : Claim7 := { stood := { row := fnSeenRow, standIns := [], harness := (true, "e4dab82343ce530ac117d79bc03aa12e7e3579a367399487e0dede59c69d901b"), looks := false }, kinds := [], alts := [], laidByText := true, laidKinds := [.sentinel, .sentinel, .sentinel, .sentinel, .sentinel, .sentinel, .sentinel], laidTests := true, laidLooks := .later }
def FnSeenCardSaid : Prop := Claim7.holds Tryd.pinned (.plain (OpenSpec.ofChange fnSeenSpec)) fnSeenCard

/-- THE TIED CARD OF 'laws.FnModules'. -/
def fnModulesCard : Claim7 := { stood := { row := fnModulesRow, standIns := [], harness := (true, "e4dab82343ce530ac117d79bc03aa12e7e3579a367399487e0dede59c69d901b"), looks := false }, kinds := [], alts := [], laidByText := true, laidKinds := [.sentinel, .sentinel, .sentinel, .sentinel, .sentinel, .sentinel], laidTests := true, laidLooks := .later }
def FnModulesCardSaid : Prop := Claim7.holds Tryd.pinned (.plain (OpenSpec.ofChange fnModulesSpec)) fnModulesCard

/-- THE TIED CARD OF 'laws.FnResolve'. -/
def fnResolveCard : Claim7 := { stood := { row := fnResolveRow, standIns := [], harness := (true, "e4dab82343ce530ac117d79bc03aa12e7e3579a367399487e0dede59c69d901b"), looks := false }, kinds := [], alts := [], laidByText := true, laidKinds := [.sentinel, .sentinel, .sentinel, .sentinel, .sentinel, .sentinel, .sentinel, .data], laidTests := true, laidLooks := .later }
def FnResolveCardSaid : Prop := Claim7.holds Tryd.pinned (.plain (OpenSpec.ofChange fnResolveSpec)) fnResolveCard

/-- THE TIED CARD OF 'laws.FnItemsIn'. -/
def fnItemsInCard : Claim7 := { stood := { row := fnItemsInRow, standIns := [], harness := (true, "e4dab82343ce530ac117d79bc03aa12e7e3579a367399487e0dede59c69d901b"), looks := false }, kinds := [], alts := [], laidByText := true, laidKinds := [.sentinel, .sentinel, .sentinel, .sentinel, .sentinel], laidTests := true, laidLooks := .later }
def FnItemsInCardSaid : Prop := Claim7.holds Tryd.pinned (.plain (OpenSpec.ofChange fnItemsInSpec)) fnItemsInCard

/-- THE SECOND FORM's CARD OF 'laws.FnExactRemoveItem'. -/
def fnExactRemoveItemUptoCard : Claim7 := { stood := { row := fnExactRemoveItemUptoRow, standIns := [], harness := (true, "e4dab82343ce530ac117d79bc03aa12e7e3579a367399487e0dede59c69d901b"), looks := false }, kinds := [], alts := [], laidByText := true, laidKinds := [.sentinel, .sentinel, .sentinel, .sentinel, .sentinel], laidTests := true, laidLooks := .later }
def FnExactRemoveItemUptoCardSaid : Prop := Claim7.holds Tryd.pinned (.plain (OpenSpec.upto fnExactRemoveItemSpec)) fnExactRemoveItemUptoCard

/-- THE SECOND FORM's CARD OF 'laws.FnExactUsersOf'. -/
def fnExactUsersOfUptoCard : Claim7 := { stood := { row := fnExactUsersOfUptoRow, standIns := [], harness := (true, "e4dab82343ce530ac117d79bc03aa12e7e3579a367399487e0dede59c69d901b"), looks := false }, kinds := [], alts := [], laidByText := true, laidKinds := [.sentinel, .sentinel, .sentinel, .sentinel, .sentinel], laidTests := true, laidLooks := .later }
def FnExactUsersOfUptoCardSaid : Prop := Claim7.holds Tryd.pinned (.plain (OpenSpec.upto fnExactUsersOfSpec)) fnExactUsersOfUptoCard

/-- THE SECOND FORM's CARD OF 'laws.FnExactChangedBy'. -/
def fnExactChangedByUptoCard : Claim7 := { stood := { row := fnExactChangedByUptoRow, standIns := [], harness := (true, "e4dab82343ce530ac117d79bc03aa12e7e3579a367399487e0dede59c69d901b"), looks := false }, kinds := [], alts := [], laidByText := true, laidKinds := [.sentinel, .sentinel, .sentinel, .sentinel, .sentinel, .sentinel], laidTests := true, laidLooks := .later }
def FnExactChangedByUptoCardSaid : Prop := Claim7.holds Tryd.pinned (.plain (OpenSpec.upto fnExactChangedBySpec)) fnExactChangedByUptoCard

/-- THE SECOND FORM's CARD OF 'laws.FnExactCanRemove'. -/
def fnExactCanRemoveUptoCard : Claim7 := { stood := { row := fnExactCanRemoveUptoRow, standIns := [], harness := (true, "e4dab82343ce530ac117d79bc03aa12e7e3579a367399487e0dede59c69d901b"), looks := false }, kinds := [], alts := [], laidByText := true, laidKinds := [.sentinel, .sentinel, .sentinel, .sentinel, .sentinel, .sentinel], laidTests := true, laidLooks := .later }
def FnExactCanRemoveUptoCardSaid : Prop := Claim7.holds Tryd.pinned (.plain (OpenSpec.upto fnExactCanRemoveSpec)) fnExactCanRemoveUptoCard

/-- THE SECOND FORM's CARD OF 'laws.FnExactRemoveUnused'. -/
def fnExactRemoveUnusedUptoCard : Claim7 := { stood := { row := fnExactRemoveUnusedUptoRow, standIns := [], harness := (true, "e4dab82343ce530ac117d79bc03aa12e7e3579a367399487e0dede59c69d901b"), looks := false }, kinds := [], alts := [], laidByText := true, laidKinds := [.sentinel, .sentinel, .sentinel, .sentinel, .sentinel, .sentinel], laidTests := true, laidLooks := .later }
def FnExactRemoveUnusedUptoCardSaid : Prop := Claim7.holds Tryd.pinned (.plain (OpenSpec.upto fnExactRemoveUnusedSpec)) fnExactRemoveUnusedUptoCard

/-- THE SECOND FORM's CARD OF 'laws.FnVisible'. -/
def fnVisibleUptoCard : Claim7 := { stood := { row := fnVisibleUptoRow, standIns := [], harness := (true, "e4dab82343ce530ac117d79bc03aa12e7e3579a367399487e0dede59c69d901b"), looks := false }, kinds := [], alts := [], laidByText := true, laidKinds := [.sentinel, .sentinel, .sentinel, .sentinel, .sentinel, .sentinel, .sentinel], laidTests := true, laidLooks := .later }
def FnVisibleUptoCardSaid : Prop := Claim7.holds Tryd.pinned (.plain (OpenSpec.upto fnVisibleSpec)) fnVisibleUptoCard

/-- THE SECOND FORM's CARD OF 'laws.FnSeen'. -/
def fnSeenUptoCard : Claim7 := { stood := { row := fnSeenUptoRow, standIns := [], harness := (true, "e4dab82343ce530ac117d79bc03aa12e7e3579a367399487e0dede59c69d901b"), looks := false }, kinds := [], alts := [], laidByText := true, laidKinds := [.sentinel, .sentinel, .sentinel, .sentinel, .sentinel, .sentinel, .sentinel], laidTests := true, laidLooks := .later }
def FnSeenUptoCardSaid : Prop := Claim7.holds Tryd.pinned (.plain (OpenSpec.upto fnSeenSpec)) fnSeenUptoCard

/-- THE SECOND FORM's CARD OF 'laws.FnModules'. -/
def fnModulesUptoCard : Claim7 := { stood := { row := fnModulesUptoRow, standIns := [], harness := (true, "e4dab82343ce530ac117d79bc03aa12e7e3579a367399487e0dede59c69d901b"), looks := false }, kinds := [], alts := [], laidByText := true, laidKinds := [.sentinel, .sentinel, .sentinel, .sentinel, .sentinel, .sentinel], laidTests := true, laidLooks := .later }
def FnModulesUptoCardSaid : Prop := Claim7.holds Tryd.pinned (.plain (OpenSpec.upto fnModulesSpec)) fnModulesUptoCard

/-- THE SECOND FORM's CARD OF 'laws.FnResolve'. -/
def fnResolveUptoCard : Claim7 := { stood := { row := fnResolveUptoRow, standIns := [], harness := (true, "e4dab82343ce530ac117d79bc03aa12e7e3579a367399487e0dede59c69d901b"), looks := false }, kinds := [], alts := [], laidByText := true, laidKinds := [.sentinel, .sentinel, .sentinel, .sentinel, .sentinel, .sentinel, .sentinel, .data], laidTests := true, laidLooks := .later }
def FnResolveUptoCardSaid : Prop := Claim7.holds Tryd.pinned (.plain (OpenSpec.upto fnResolveSpec)) fnResolveUptoCard

/-- THE SECOND FORM's CARD OF 'laws.FnItemsIn'. -/
def fnItemsInUptoCard : Claim7 := { stood := { row := fnItemsInUptoRow, standIns := [], harness := (true, "e4dab82343ce530ac117d79bc03aa12e7e3579a367399487e0dede59c69d901b"), looks := false }, kinds := [], alts := [], laidByText := true, laidKinds := [.sentinel, .sentinel, .sentinel, .sentinel, .sentinel], laidTests := true, laidLooks := .later }
def FnItemsInUptoCardSaid : Prop := Claim7.holds Tryd.pinned (.plain (OpenSpec.upto fnItemsInSpec)) fnItemsInUptoCard
end Rows
end Go.Proofs.YtppgdigcopkeiaaDoor
