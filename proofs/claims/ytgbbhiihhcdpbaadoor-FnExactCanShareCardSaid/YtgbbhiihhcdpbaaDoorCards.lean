/-
  DERIVED. GIVEN WITH THE SEED: THE CARDS: each row of YtgbbhiihhcdpbaaDoorRows.lean that lists a variable, with what it lists TIED to the program's text (the seventh form; the later family's looks); each row that meets fmt, with fmt's text TOLD by the authors' own Lean function (tested against real Go, not proved from fmt's source: count such statements apart). THE CARD IS WHAT COUNTS. Prove the row's statement (the work); the ties are given (YtgbbhiihhcdpbaaDoorTie.lean); close each card by the builder's one call (the guide's Derived/Test/ToyasCard.lean, 'card_holds'). Laid BY PROGRAM, IN A SANDBOX (cutbox-door.mjs). By AI agents, Wed Nov 11 2026. No macro, syntax, notation, axiom, sorry.
-/
import Derived.Test.YtgbbhiihhcdpbaaDoorRows
import GoSem.ClaimSeven
namespace Go.Proofs.YtgbbhiihhcdpbaaDoor
namespace Rows

/-- THE TIED CARD OF 'laws.FnExactFewestNames'. -/
def fnExactFewestNamesCard : Claim7 := { stood := { row := fnExactFewestNamesRow, standIns := [], harness := (true, "8c4ff877faffc8d3a246ac44fcac14596423db9932d5f477a57833b9e13501a3"), looks := false }, kinds := [], alts := [], laidByText := true, laidKinds := [.sentinel, .sentinel, .sentinel, .sentinel, .sentinel, .sentinel, .sentinel, .sentinel], laidTests := true, laidLooks := .later }
def FnExactFewestNamesCardSaid : Prop := Claim7.holds Tryd.pinned (.plain (OpenSpec.ofChange fnExactFewestNamesSpec)) fnExactFewestNamesCard

/-- THE TIED CARD OF 'laws.FnExactCanShare'. -/
def fnExactCanShareCard : Claim7 := { stood := { row := fnExactCanShareRow, standIns := [], harness := (true, "8c4ff877faffc8d3a246ac44fcac14596423db9932d5f477a57833b9e13501a3"), looks := false }, kinds := [], alts := [], laidByText := true, laidKinds := [.sentinel, .sentinel, .sentinel, .sentinel, .sentinel, .sentinel, .sentinel, .sentinel], laidTests := true, laidLooks := .later }
def FnExactCanShareCardSaid : Prop := Claim7.holds Tryd.pinned (.plain (OpenSpec.ofChange fnExactCanShareSpec)) fnExactCanShareCard

/-- THE TIED CARD OF 'laws.FnExactGreedyNames'. -/
def fnExactGreedyNamesCard : Claim7 := { stood := { row := fnExactGreedyNamesRow, standIns := [], harness := (true, "8c4ff877faffc8d3a246ac44fcac14596423db9932d5f477a57833b9e13501a3"), looks := false }, kinds := [], alts := [], laidByText := true, laidKinds := [.sentinel, .sentinel, .sentinel, .sentinel, .sentinel, .sentinel, .sentinel, .sentinel], laidTests := true, laidLooks := .later }
def FnExactGreedyNamesCardSaid : Prop := Claim7.holds Tryd.pinned (.plain (OpenSpec.ofChange fnExactGreedyNamesSpec)) fnExactGreedyNamesCard

/-- THE TIED CARD OF 'laws.FnExactNamedGraph'. -/
def fnExactNamedGraphCard : Claim7 := { stood := { row := fnExactNamedGraphRow, standIns := [], harness := (true, "8c4ff877faffc8d3a246ac44fcac14596423db9932d5f477a57833b9e13501a3"), looks := false }, kinds := [], alts := [], laidByText := true, laidKinds := [.sentinel, .sentinel, .sentinel, .sentinel, .sentinel, .sentinel, .sentinel], laidTests := true, laidLooks := .later }
def FnExactNamedGraphCardSaid : Prop := Claim7.holds Tryd.pinned (.plain (OpenSpec.ofChange fnExactNamedGraphSpec)) fnExactNamedGraphCard

/-- THE TIED CARD OF 'laws.FnExactIsGoodNaming'. -/
def fnExactIsGoodNamingCard : Claim7 := { stood := { row := fnExactIsGoodNamingRow, standIns := [], harness := (true, "8c4ff877faffc8d3a246ac44fcac14596423db9932d5f477a57833b9e13501a3"), looks := false }, kinds := [], alts := [], laidByText := true, laidKinds := [.sentinel, .sentinel, .sentinel, .sentinel, .sentinel, .sentinel, .sentinel], laidTests := true, laidLooks := .later }
def FnExactIsGoodNamingCardSaid : Prop := Claim7.holds Tryd.pinned (.plain (OpenSpec.ofChange fnExactIsGoodNamingSpec)) fnExactIsGoodNamingCard

/-- THE SECOND FORM's CARD OF 'laws.FnExactFewestNames'. -/
def fnExactFewestNamesUptoCard : Claim7 := { stood := { row := fnExactFewestNamesUptoRow, standIns := [], harness := (true, "8c4ff877faffc8d3a246ac44fcac14596423db9932d5f477a57833b9e13501a3"), looks := false }, kinds := [], alts := [], laidByText := true, laidKinds := [.sentinel, .sentinel, .sentinel, .sentinel, .sentinel, .sentinel, .sentinel, .sentinel], laidTests := true, laidLooks := .later }
def FnExactFewestNamesUptoCardSaid : Prop := Claim7.holds Tryd.pinned (.plain (OpenSpec.upto fnExactFewestNamesSpec)) fnExactFewestNamesUptoCard

/-- THE SECOND FORM's CARD OF 'laws.FnExactCanShare'. -/
def fnExactCanShareUptoCard : Claim7 := { stood := { row := fnExactCanShareUptoRow, standIns := [], harness := (true, "8c4ff877faffc8d3a246ac44fcac14596423db9932d5f477a57833b9e13501a3"), looks := false }, kinds := [], alts := [], laidByText := true, laidKinds := [.sentinel, .sentinel, .sentinel, .sentinel, .sentinel, .sentinel, .sentinel, .sentinel], laidTests := true, laidLooks := .later }
def FnExactCanShareUptoCardSaid : Prop := Claim7.holds Tryd.pinned (.plain (OpenSpec.upto fnExactCanShareSpec)) fnExactCanShareUptoCard

/-- THE SECOND FORM's CARD OF 'laws.FnExactGreedyNames'. -/
def fnExactGreedyNamesUptoCard : Claim7 := { stood := { row := fnExactGreedyNamesUptoRow, standIns := [], harness := (true, "8c4ff877faffc8d3a246ac44fcac14596423db9932d5f477a57833b9e13501a3"), looks := false }, kinds := [], alts := [], laidByText := true, laidKinds := [.sentinel, .sentinel, .sentinel, .sentinel, .sentinel, .sentinel, .sentinel, .sentinel], laidTests := true, laidLooks := .later }
def FnExactGreedyNamesUptoCardSaid : Prop := Claim7.holds Tryd.pinned (.plain (OpenSpec.upto fnExactGreedyNamesSpec)) fnExactGreedyNamesUptoCard

/-- THE SECOND FORM's CARD OF 'laws.FnExactNamedGraph'. -/
def fnExactNamedGraphUptoCard : Claim7 := { stood := { row := fnExactNamedGraphUptoRow, standIns := [], harness := (true, "8c4ff877faffc8d3a246ac44fcac14596423db9932d5f477a57833b9e13501a3"), looks := false }, kinds := [], alts := [], laidByText := true, laidKinds := [.sentinel, .sentinel, .sentinel, .sentinel, .sentinel, .sentinel, .sentinel], laidTests := true, laidLooks := .later }
def FnExactNamedGraphUptoCardSaid : Prop := Claim7.holds Tryd.pinned (.plain (OpenSpec.upto fnExactNamedGraphSpec)) fnExactNamedGraphUptoCard

/-- THE SECOND FORM's CARD OF 'laws.FnExactIsGoodNaming'. -/
def fnExactIsGoodNamingUptoCard : Claim7 := { stood := { row := fnExactIsGoodNamingUptoRow, standIns := [], harness := (true, "8c4ff877faffc8d3a246ac44fcac14596423db9932d5f477a57833b9e13501a3"), looks := false }, kinds := [], alts := [], laidByText := true, laidKinds := [.sentinel, .sentinel, .sentinel, .sentinel, .sentinel, .sentinel, .sentinel], laidTests := true, laidLooks := .later }
def FnExactIsGoodNamingUptoCardSaid : Prop := Claim7.holds Tryd.pinned (.plain (OpenSpec.upto fnExactIsGoodNamingSpec)) fnExactIsGoodNamingUptoCard
end Rows
end Go.Proofs.YtgbbhiihhcdpbaaDoor
