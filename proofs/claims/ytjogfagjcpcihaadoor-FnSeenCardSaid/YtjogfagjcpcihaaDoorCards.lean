/-
  DERIVED. GIVEN WITH THE SEED: THE CARDS: each row of YtjogfagjcpcihaaDoorRows.lean that lists a variable, with what it lists TIED to the program's text (the seventh form; the later family's looks); each row that meets fmt, with fmt's text TOLD by the authors' own Lean function (tested against real Go, not proved from fmt's source: count such statements apart). THE CARD IS WHAT COUNTS. Prove the row's statement (the work); the ties are given (YtjogfagjcpcihaaDoorTie.lean); close each card by the builder's one call (the guide's Derived/Test/ToyasCard.lean, 'card_holds'). Laid BY PROGRAM, IN A SANDBOX (cutbox-door.mjs). By AI agents, Wed Nov 11 2026. No macro, syntax, notation, axiom, sorry.
-/
import Derived.Test.YtjogfagjcpcihaaDoorRows
import GoSem.ClaimSeven
namespace Go.Proofs.YtjogfagjcpcihaaDoor
namespace Rows

/-- THE TIED CARD OF 'laws.FnModules'. -/
def fnModulesCard : Claim7 := { stood := { row := fnModulesRow, standIns := [], harness := (true, "79fea52d5ab805af03ad82f4beccd3453f0f5f701b8dbbb158912ac1c1c984c1"), looks := false }, kinds := [], alts := [], laidByText := true, laidKinds := [.sentinel, .sentinel, .sentinel, .sentinel, .sentinel, .sentinel], laidTests := true, laidLooks := .later }
def FnModulesCardSaid : Prop := Claim7.holds Tryd.pinned (.plain (OpenSpec.ofChange fnModulesSpec)) fnModulesCard

/-- THE TIED CARD OF 'laws.FnSeen'. -/
def fnSeenCard : Claim7 := { stood := { row := fnSeenRow, standIns := [], harness := (true, "79fea52d5ab805af03ad82f4beccd3453f0f5f701b8dbbb158912ac1c1c984c1"), looks := false }, kinds := [], alts := [], laidByText := true, laidKinds := [.sentinel, .sentinel, .sentinel, .sentinel, .sentinel, .sentinel, .sentinel], laidTests := true, laidLooks := .later }
def FnSeenCardSaid : Prop := Claim7.holds Tryd.pinned (.plain (OpenSpec.ofChange fnSeenSpec)) fnSeenCard

/-- THE TIED CARD OF 'laws.FnNumbers'. -/
def fnNumbersCard : Claim7 := { stood := { row := fnNumbersRow, standIns := [], harness := (true, "79fea52d5ab805af03ad82f4beccd3453f0f5f701b8dbbb158912ac1c1c984c1"), looks := false }, kinds := [], alts := [], laidByText := true, laidKinds := [.data, .data, .data], laidTests := true, laidLooks := .later }
def FnNumbersCardSaid : Prop := Claim7.holds Tryd.pinned (.plain (OpenSpec.ofChange fnNumbersSpec)) fnNumbersCard

/-- THE TIED CARD OF 'laws.FnExactFormatNumbers'. -/
def fnExactFormatNumbersCard : Claim7 := { stood := { row := fnExactFormatNumbersRow, standIns := [], harness := (true, "79fea52d5ab805af03ad82f4beccd3453f0f5f701b8dbbb158912ac1c1c984c1"), looks := false }, kinds := [], alts := [], laidByText := true, laidKinds := [.data, .data, .data], laidTests := true, laidLooks := .later }
def FnExactFormatNumbersCardSaid : Prop := Claim7.holds Tryd.pinned (.plain (OpenSpec.ofChange fnExactFormatNumbersSpec)) fnExactFormatNumbersCard

/-- THE TIED CARD OF 'laws.FnExactFormatPlaces'. -/
def fnExactFormatPlacesCard : Claim7 := { stood := { row := fnExactFormatPlacesRow, standIns := [], harness := (true, "79fea52d5ab805af03ad82f4beccd3453f0f5f701b8dbbb158912ac1c1c984c1"), looks := false }, kinds := [], alts := [], laidByText := true, laidKinds := [.data, .data, .data], laidTests := true, laidLooks := .later }
def FnExactFormatPlacesCardSaid : Prop := Claim7.holds Tryd.pinned (.plain (OpenSpec.ofChange fnExactFormatPlacesSpec)) fnExactFormatPlacesCard

/-- THE TIED CARD OF 'laws.FnExactTableOf'. -/
def fnExactTableOfCard : Claim7 := { stood := { row := fnExactTableOfRow, standIns := [], harness := (true, "79fea52d5ab805af03ad82f4beccd3453f0f5f701b8dbbb158912ac1c1c984c1"), looks := false }, kinds := [], alts := [], laidByText := true, laidKinds := [.data, .data, .data, .sentinel, .sentinel, .sentinel, .sentinel, .sentinel], laidTests := true, laidLooks := .later }
def FnExactTableOfCardSaid : Prop := Claim7.holds Tryd.pinned (.plain (OpenSpec.ofChange fnExactTableOfSpec)) fnExactTableOfCard

/-- THE TIED CARD OF 'laws.FnExactIsFresh'. -/
def fnExactIsFreshCard : Claim7 := { stood := { row := fnExactIsFreshRow, standIns := [], harness := (true, "79fea52d5ab805af03ad82f4beccd3453f0f5f701b8dbbb158912ac1c1c984c1"), looks := false }, kinds := [], alts := [], laidByText := true, laidKinds := [.sentinel, .sentinel, .sentinel, .sentinel, .sentinel], laidTests := true, laidLooks := .later }
def FnExactIsFreshCardSaid : Prop := Claim7.holds Tryd.pinned (.plain (OpenSpec.ofChange fnExactIsFreshSpec)) fnExactIsFreshCard

/-- THE TIED CARD OF 'laws.FnExactCountNames'. -/
def fnExactCountNamesCard : Claim7 := { stood := { row := fnExactCountNamesRow, standIns := [], harness := (true, "79fea52d5ab805af03ad82f4beccd3453f0f5f701b8dbbb158912ac1c1c984c1"), looks := false }, kinds := [], alts := [], laidByText := true, laidKinds := [.sentinel, .sentinel, .sentinel, .sentinel, .sentinel], laidTests := true, laidLooks := .later }
def FnExactCountNamesCardSaid : Prop := Claim7.holds Tryd.pinned (.plain (OpenSpec.ofChange fnExactCountNamesSpec)) fnExactCountNamesCard

/-- THE TIED CARD OF 'laws.FnOwnNames'. -/
def fnOwnNamesCard : Claim7 := { stood := { row := fnOwnNamesRow, standIns := [], harness := (true, "79fea52d5ab805af03ad82f4beccd3453f0f5f701b8dbbb158912ac1c1c984c1"), looks := false }, kinds := [], alts := [], laidByText := true, laidKinds := [.sentinel, .sentinel, .sentinel, .sentinel, .sentinel], laidTests := true, laidLooks := .later }
def FnOwnNamesCardSaid : Prop := Claim7.holds Tryd.pinned (.plain (OpenSpec.ofChange fnOwnNamesSpec)) fnOwnNamesCard

/-- THE SECOND FORM's CARD OF 'laws.FnModules'. -/
def fnModulesUptoCard : Claim7 := { stood := { row := fnModulesUptoRow, standIns := [], harness := (true, "79fea52d5ab805af03ad82f4beccd3453f0f5f701b8dbbb158912ac1c1c984c1"), looks := false }, kinds := [], alts := [], laidByText := true, laidKinds := [.sentinel, .sentinel, .sentinel, .sentinel, .sentinel, .sentinel], laidTests := true, laidLooks := .later }
def FnModulesUptoCardSaid : Prop := Claim7.holds Tryd.pinned (.plain (OpenSpec.upto fnModulesSpec)) fnModulesUptoCard

/-- THE SECOND FORM's CARD OF 'laws.FnSeen'. -/
def fnSeenUptoCard : Claim7 := { stood := { row := fnSeenUptoRow, standIns := [], harness := (true, "79fea52d5ab805af03ad82f4beccd3453f0f5f701b8dbbb158912ac1c1c984c1"), looks := false }, kinds := [], alts := [], laidByText := true, laidKinds := [.sentinel, .sentinel, .sentinel, .sentinel, .sentinel, .sentinel, .sentinel], laidTests := true, laidLooks := .later }
def FnSeenUptoCardSaid : Prop := Claim7.holds Tryd.pinned (.plain (OpenSpec.upto fnSeenSpec)) fnSeenUptoCard

/-- THE SECOND FORM's CARD OF 'laws.FnNumbers'. -/
def fnNumbersUptoCard : Claim7 := { stood := { row := fnNumbersUptoRow, standIns := [], harness := (true, "79fea52d5ab805af03ad82f4beccd3453f0f5f701b8dbbb158912ac1c1c984c1"), looks := false }, kinds := [], alts := [], laidByText := true, laidKinds := [.data, .data, .data], laidTests := true, laidLooks := .later }
def FnNumbersUptoCardSaid : Prop := Claim7.holds Tryd.pinned (.plain (OpenSpec.upto fnNumbersSpec)) fnNumbersUptoCard

/-- THE SECOND FORM's CARD OF 'laws.FnExactFormatNumbers'. -/
def fnExactFormatNumbersUptoCard : Claim7 := { stood := { row := fnExactFormatNumbersUptoRow, standIns := [], harness := (true, "79fea52d5ab805af03ad82f4beccd3453f0f5f701b8dbbb158912ac1c1c984c1"), looks := false }, kinds := [], alts := [], laidByText := true, laidKinds := [.data, .data, .data], laidTests := true, laidLooks := .later }
def FnExactFormatNumbersUptoCardSaid : Prop := Claim7.holds Tryd.pinned (.plain (OpenSpec.upto fnExactFormatNumbersSpec)) fnExactFormatNumbersUptoCard

/-- THE SECOND FORM's CARD OF 'laws.FnExactFormatPlaces'. -/
def fnExactFormatPlacesUptoCard : Claim7 := { stood := { row := fnExactFormatPlacesUptoRow, standIns := [], harness := (true, "79fea52d5ab805af03ad82f4beccd3453f0f5f701b8dbbb158912ac1c1c984c1"), looks := false }, kinds := [], alts := [], laidByText := true, laidKinds := [.data, .data, .data], laidTests := true, laidLooks := .later }
def FnExactFormatPlacesUptoCardSaid : Prop := Claim7.holds Tryd.pinned (.plain (OpenSpec.upto fnExactFormatPlacesSpec)) fnExactFormatPlacesUptoCard

/-- THE SECOND FORM's CARD OF 'laws.FnExactTableOf'. -/
def fnExactTableOfUptoCard : Claim7 := { stood := { row := fnExactTableOfUptoRow, standIns := [], harness := (true, "79fea52d5ab805af03ad82f4beccd3453f0f5f701b8dbbb158912ac1c1c984c1"), looks := false }, kinds := [], alts := [], laidByText := true, laidKinds := [.data, .data, .data, .sentinel, .sentinel, .sentinel, .sentinel, .sentinel], laidTests := true, laidLooks := .later }
def FnExactTableOfUptoCardSaid : Prop := Claim7.holds Tryd.pinned (.plain (OpenSpec.upto fnExactTableOfSpec)) fnExactTableOfUptoCard

/-- THE SECOND FORM's CARD OF 'laws.FnExactIsFresh'. -/
def fnExactIsFreshUptoCard : Claim7 := { stood := { row := fnExactIsFreshUptoRow, standIns := [], harness := (true, "79fea52d5ab805af03ad82f4beccd3453f0f5f701b8dbbb158912ac1c1c984c1"), looks := false }, kinds := [], alts := [], laidByText := true, laidKinds := [.sentinel, .sentinel, .sentinel, .sentinel, .sentinel], laidTests := true, laidLooks := .later }
def FnExactIsFreshUptoCardSaid : Prop := Claim7.holds Tryd.pinned (.plain (OpenSpec.upto fnExactIsFreshSpec)) fnExactIsFreshUptoCard

/-- THE SECOND FORM's CARD OF 'laws.FnExactCountNames'. -/
def fnExactCountNamesUptoCard : Claim7 := { stood := { row := fnExactCountNamesUptoRow, standIns := [], harness := (true, "79fea52d5ab805af03ad82f4beccd3453f0f5f701b8dbbb158912ac1c1c984c1"), looks := false }, kinds := [], alts := [], laidByText := true, laidKinds := [.sentinel, .sentinel, .sentinel, .sentinel, .sentinel], laidTests := true, laidLooks := .later }
def FnExactCountNamesUptoCardSaid : Prop := Claim7.holds Tryd.pinned (.plain (OpenSpec.upto fnExactCountNamesSpec)) fnExactCountNamesUptoCard

/-- THE SECOND FORM's CARD OF 'laws.FnOwnNames'. -/
def fnOwnNamesUptoCard : Claim7 := { stood := { row := fnOwnNamesUptoRow, standIns := [], harness := (true, "79fea52d5ab805af03ad82f4beccd3453f0f5f701b8dbbb158912ac1c1c984c1"), looks := false }, kinds := [], alts := [], laidByText := true, laidKinds := [.sentinel, .sentinel, .sentinel, .sentinel, .sentinel], laidTests := true, laidLooks := .later }
def FnOwnNamesUptoCardSaid : Prop := Claim7.holds Tryd.pinned (.plain (OpenSpec.upto fnOwnNamesSpec)) fnOwnNamesUptoCard
end Rows
end Go.Proofs.YtjogfagjcpcihaaDoor
