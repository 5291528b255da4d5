/-
  DERIVED. GIVEN WITH THE SEED: THE CARDS: each row of YtdmaaneilfjfcaaDoorRows.lean that lists a variable, with what it lists TIED to the program's text (the seventh form; the later family's looks); each row that meets fmt, with fmt's text TOLD by the authors' own Lean function (tested against real Go, not proved from fmt's source: count such statements apart). THE CARD IS WHAT COUNTS. Prove the row's statement (the work); the ties are given (YtdmaaneilfjfcaaDoorTie.lean); close each card by the builder's one call (the guide's Derived/Test/ToyasCard.lean, 'card_holds'). Laid BY PROGRAM, IN A SANDBOX (cutbox-door.mjs). By AI agents, Wed Nov 11 2026. No macro, syntax, notation, axiom, sorry.
-/
import Derived.Test.YtdmaaneilfjfcaaDoorRows
import GoSem.ClaimSeven
namespace Go.Proofs.YtdmaaneilfjfcaaDoor
namespace Rows

/-- THE TIED CARD OF 'laws.FnOwnNames'. -/
def fnOwnNamesCard : Claim7 := { stood := { row := fnOwnNamesRow, standIns := [], harness := (true, "693f63c702ae5037fdb432d33cd76c7e2fdad36d5c2e98660243b114a7e3e364"), looks := false }, kinds := [], alts := [], laidByText := true, laidKinds := [.sentinel, .sentinel, .sentinel, .sentinel, .sentinel], laidTests := true, laidLooks := .later }
def FnOwnNamesCardSaid : Prop := Claim7.holds Tryd.pinned (.plain (OpenSpec.ofChange fnOwnNamesSpec)) fnOwnNamesCard

/-- THE TIED CARD OF 'laws.FnExactFormatGraph'. -/
def fnExactFormatGraphCard : Claim7 := { stood := { row := fnExactFormatGraphRow, standIns := [], harness := (true, "693f63c702ae5037fdb432d33cd76c7e2fdad36d5c2e98660243b114a7e3e364"), looks := false }, kinds := [], alts := [], laidByText := true, laidKinds := [.data, .data, .data, .sentinel, .sentinel, .sentinel, .sentinel, .sentinel], laidTests := true, laidLooks := .later }
def FnExactFormatGraphCardSaid : Prop := Claim7.holds Tryd.pinned (.plain (OpenSpec.ofChange fnExactFormatGraphSpec)) fnExactFormatGraphCard

/-- THE TIED CARD OF 'laws.FnExactFreshGraph'. -/
def fnExactFreshGraphCard : Claim7 := { stood := { row := fnExactFreshGraphRow, standIns := [], harness := (true, "693f63c702ae5037fdb432d33cd76c7e2fdad36d5c2e98660243b114a7e3e364"), looks := false }, kinds := [], alts := [], laidByText := true, laidKinds := [.sentinel, .sentinel, .sentinel, .sentinel, .sentinel, .sentinel, .sentinel], laidTests := true, laidLooks := .later }
def FnExactFreshGraphCardSaid : Prop := Claim7.holds Tryd.pinned (.plain (OpenSpec.ofChange fnExactFreshGraphSpec)) fnExactFreshGraphCard

/-- THE TIED CARD OF 'laws.FnExactIsFresh'. -/
def fnExactIsFreshCard : Claim7 := { stood := { row := fnExactIsFreshRow, standIns := [], harness := (true, "693f63c702ae5037fdb432d33cd76c7e2fdad36d5c2e98660243b114a7e3e364"), looks := false }, kinds := [], alts := [], laidByText := true, laidKinds := [.sentinel, .sentinel, .sentinel, .sentinel, .sentinel], laidTests := true, laidLooks := .later }
def FnExactIsFreshCardSaid : Prop := Claim7.holds Tryd.pinned (.plain (OpenSpec.ofChange fnExactIsFreshSpec)) fnExactIsFreshCard

/-- THE TIED CARD OF 'laws.FnExactNamedGraph'. -/
def fnExactNamedGraphCard : Claim7 := { stood := { row := fnExactNamedGraphRow, standIns := [], harness := (true, "693f63c702ae5037fdb432d33cd76c7e2fdad36d5c2e98660243b114a7e3e364"), looks := false }, kinds := [], alts := [], laidByText := true, laidKinds := [.sentinel, .sentinel, .sentinel, .sentinel, .sentinel, .sentinel, .sentinel], laidTests := true, laidLooks := .later }
def FnExactNamedGraphCardSaid : Prop := Claim7.holds Tryd.pinned (.plain (OpenSpec.ofChange fnExactNamedGraphSpec)) fnExactNamedGraphCard

/-- THE TIED CARD OF 'laws.FnExactIsGoodNaming'. -/
def fnExactIsGoodNamingCard : Claim7 := { stood := { row := fnExactIsGoodNamingRow, standIns := [], harness := (true, "693f63c702ae5037fdb432d33cd76c7e2fdad36d5c2e98660243b114a7e3e364"), looks := false }, kinds := [], alts := [], laidByText := true, laidKinds := [.sentinel, .sentinel, .sentinel, .sentinel, .sentinel, .sentinel, .sentinel], laidTests := true, laidLooks := .later }
def FnExactIsGoodNamingCardSaid : Prop := Claim7.holds Tryd.pinned (.plain (OpenSpec.ofChange fnExactIsGoodNamingSpec)) fnExactIsGoodNamingCard

/-- THE TIED CARD OF 'laws.FnExactOwnNames'. -/
def fnExactOwnNamesCard : Claim7 := { stood := { row := fnExactOwnNamesRow, standIns := [], harness := (true, "693f63c702ae5037fdb432d33cd76c7e2fdad36d5c2e98660243b114a7e3e364"), looks := false }, kinds := [], alts := [], laidByText := true, laidKinds := [.sentinel, .sentinel, .sentinel, .sentinel, .sentinel], laidTests := true, laidLooks := .later }
def FnExactOwnNamesCardSaid : Prop := Claim7.holds Tryd.pinned (.plain (OpenSpec.ofChange fnExactOwnNamesSpec)) fnExactOwnNamesCard

/-- THE TIED CARD OF 'laws.FnExactCountNames'. -/
def fnExactCountNamesCard : Claim7 := { stood := { row := fnExactCountNamesRow, standIns := [], harness := (true, "693f63c702ae5037fdb432d33cd76c7e2fdad36d5c2e98660243b114a7e3e364"), looks := false }, kinds := [], alts := [], laidByText := true, laidKinds := [.sentinel, .sentinel, .sentinel, .sentinel, .sentinel], laidTests := true, laidLooks := .later }
def FnExactCountNamesCardSaid : Prop := Claim7.holds Tryd.pinned (.plain (OpenSpec.ofChange fnExactCountNamesSpec)) fnExactCountNamesCard

/-- THE SECOND FORM's CARD OF 'laws.FnOwnNames'. -/
def fnOwnNamesUptoCard : Claim7 := { stood := { row := fnOwnNamesUptoRow, standIns := [], harness := (true, "693f63c702ae5037fdb432d33cd76c7e2fdad36d5c2e98660243b114a7e3e364"), looks := false }, kinds := [], alts := [], laidByText := true, laidKinds := [.sentinel, .sentinel, .sentinel, .sentinel, .sentinel], laidTests := true, laidLooks := .later }
def FnOwnNamesUptoCardSaid : Prop := Claim7.holds Tryd.pinned (.plain (OpenSpec.upto fnOwnNamesSpec)) fnOwnNamesUptoCard

/-- THE SECOND FORM's CARD OF 'laws.FnExactFormatGraph'. -/
def fnExactFormatGraphUptoCard : Claim7 := { stood := { row := fnExactFormatGraphUptoRow, standIns := [], harness := (true, "693f63c702ae5037fdb432d33cd76c7e2fdad36d5c2e98660243b114a7e3e364"), looks := false }, kinds := [], alts := [], laidByText := true, laidKinds := [.data, .data, .data, .sentinel, .sentinel, .sentinel, .sentinel, .sentinel], laidTests := true, laidLooks := .later }
def FnExactFormatGraphUptoCardSaid : Prop := Claim7.holds Tryd.pinned (.plain (OpenSpec.upto fnExactFormatGraphSpec)) fnExactFormatGraphUptoCard

/-- THE SECOND FORM's CARD OF 'laws.FnExactFreshGraph'. -/
def fnExactFreshGraphUptoCard : Claim7 := { stood := { row := fnExactFreshGraphUptoRow, standIns := [], harness := (true, "693f63c702ae5037fdb432d33cd76c7e2fdad36d5c2e98660243b114a7e3e364"), looks := false }, kinds := [], alts := [], laidByText := true, laidKinds := [.sentinel, .sentinel, .sentinel, .sentinel, .sentinel, .sentinel, .sentinel], laidTests := true, laidLooks := .later }
def FnExactFreshGraphUptoCardSaid : Prop := Claim7.holds Tryd.pinned (.plain (OpenSpec.upto fnExactFreshGraphSpec)) fnExactFreshGraphUptoCard

/-- THE SECOND FORM's CARD OF 'laws.FnExactIsFresh'. -/
def fnExactIsFreshUptoCard : Claim7 := { stood := { row := fnExactIsFreshUptoRow, standIns := [], harness := (true, "693f63c702ae5037fdb432d33cd76c7e2fdad36d5c2e98660243b114a7e3e364"), looks := false }, kinds := [], alts := [], laidByText := true, laidKinds := [.sentinel, .sentinel, .sentinel, .sentinel, .sentinel], laidTests := true, laidLooks := .later }
def FnExactIsFreshUptoCardSaid : Prop := Claim7.holds Tryd.pinned (.plain (OpenSpec.upto fnExactIsFreshSpec)) fnExactIsFreshUptoCard

/-- THE SECOND FORM's CARD OF 'laws.FnExactNamedGraph'. -/
def fnExactNamedGraphUptoCard : Claim7 := { stood := { row := fnExactNamedGraphUptoRow, standIns := [], harness := (true, "693f63c702ae5037fdb432d33cd76c7e2fdad36d5c2e98660243b114a7e3e364"), looks := false }, kinds := [], alts := [], laidByText := true, laidKinds := [.sentinel, .sentinel, .sentinel, .sentinel, .sentinel, .sentinel, .sentinel], laidTests := true, laidLooks := .later }
def FnExactNamedGraphUptoCardSaid : Prop := Claim7.holds Tryd.pinned (.plain (OpenSpec.upto fnExactNamedGraphSpec)) fnExactNamedGraphUptoCard

/-- THE SECOND FORM's CARD OF 'laws.FnExactIsGoodNaming'. -/
def fnExactIsGoodNamingUptoCard : Claim7 := { stood := { row := fnExactIsGoodNamingUptoRow, standIns := [], harness := (true, "693f63c702ae5037fdb432d33cd76c7e2fdad36d5c2e98660243b114a7e3e364"), looks := false }, kinds := [], alts := [], laidByText := true, laidKinds := [.sentinel, .sentinel, .sentinel, .sentinel, .sentinel, .sentinel, .sentinel], laidTests := true, laidLooks := .later }
def FnExactIsGoodNamingUptoCardSaid : Prop := Claim7.holds Tryd.pinned (.plain (OpenSpec.upto fnExactIsGoodNamingSpec)) fnExactIsGoodNamingUptoCard

/-- THE SECOND FORM's CARD OF 'laws.FnExactOwnNames'. -/
def fnExactOwnNamesUptoCard : Claim7 := { stood := { row := fnExactOwnNamesUptoRow, standIns := [], harness := (true, "693f63c702ae5037fdb432d33cd76c7e2fdad36d5c2e98660243b114a7e3e364"), looks := false }, kinds := [], alts := [], laidByText := true, laidKinds := [.sentinel, .sentinel, .sentinel, .sentinel, .sentinel], laidTests := true, laidLooks := .later }
def FnExactOwnNamesUptoCardSaid : Prop := Claim7.holds Tryd.pinned (.plain (OpenSpec.upto fnExactOwnNamesSpec)) fnExactOwnNamesUptoCard

/-- THE SECOND FORM's CARD OF 'laws.FnExactCountNames'. -/
def fnExactCountNamesUptoCard : Claim7 := { stood := { row := fnExactCountNamesUptoRow, standIns := [], harness := (true, "693f63c702ae5037fdb432d33cd76c7e2fdad36d5c2e98660243b114a7e3e364"), looks := false }, kinds := [], alts := [], laidByText := true, laidKinds := [.sentinel, .sentinel, .sentinel, .sentinel, .sentinel], laidTests := true, laidLooks := .later }
def FnExactCountNamesUptoCardSaid : Prop := Claim7.holds Tryd.pinned (.plain (OpenSpec.upto fnExactCountNamesSpec)) fnExactCountNamesUptoCard
end Rows
end Go.Proofs.YtdmaaneilfjfcaaDoor
