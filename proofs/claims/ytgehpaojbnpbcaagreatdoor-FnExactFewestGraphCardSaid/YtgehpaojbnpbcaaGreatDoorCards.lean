/-
  DERIVED. GIVEN WITH THE SEED: THE CARDS: each row of YtgehpaojbnpbcaaGreatDoorRows.lean that lists a variable, with what it lists TIED to the program's text (the seventh form; the later family's looks); each row that meets fmt, with fmt's text TOLD by the authors' own Lean function (tested against real Go, not proved from fmt's source: count such statements apart). THE CARD IS WHAT COUNTS. Prove the row's statement (the work); the ties are given (YtgehpaojbnpbcaaGreatDoorTie.lean); close each card by the builder's one call (the guide's Derived/Test/ToyasCard.lean, 'card_holds'). Laid BY PROGRAM, IN A SANDBOX (cutbox-door.mjs). By AI agents, Wed Nov 11 2026. No macro, syntax, notation, axiom, sorry.
-/
import Derived.Test.YtgehpaojbnpbcaaGreatDoorRows
import GoSem.ClaimSeven
namespace Go.Proofs.YtgehpaojbnpbcaaGreatDoor
namespace Rows

/-- THE TIED CARD OF 'laws.FnExactFewestGraph'. -/
def fnExactFewestGraphCard : Claim7 := { stood := { row := fnExactFewestGraphRow, standIns := [], harness := (true, "b9673fd5cc5e9cc8eb6f2e00fa81f054124b633627e57dc5b17ccaedc620d526"), looks := false }, kinds := [], alts := [], laidByText := true, laidKinds := [.sentinel, .sentinel, .sentinel, .sentinel, .sentinel, .sentinel, .sentinel, .sentinel], laidTests := true, laidLooks := .later }
def FnExactFewestGraphCardSaid : Prop := Claim7.holds Tryz.pinned (.plain (OpenSpec.ofChange fnExactFewestGraphSpec)) fnExactFewestGraphCard

/-- THE TIED CARD OF 'laws.FnExactIsFewest'. -/
def fnExactIsFewestCard : Claim7 := { stood := { row := fnExactIsFewestRow, standIns := [], harness := (true, "b9673fd5cc5e9cc8eb6f2e00fa81f054124b633627e57dc5b17ccaedc620d526"), looks := false }, kinds := [], alts := [], laidByText := true, laidKinds := [.sentinel, .sentinel, .sentinel, .sentinel, .sentinel, .sentinel, .sentinel, .sentinel], laidTests := true, laidLooks := .later }
def FnExactIsFewestCardSaid : Prop := Claim7.holds Tryz.pinned (.plain (OpenSpec.ofChange fnExactIsFewestSpec)) fnExactIsFewestCard

/-- THE TIED CARD OF 'laws.FnExactBadNaming'. -/
def fnExactBadNamingCard : Claim7 := { stood := { row := fnExactBadNamingRow, standIns := [], harness := (true, "b9673fd5cc5e9cc8eb6f2e00fa81f054124b633627e57dc5b17ccaedc620d526"), looks := false }, kinds := [], alts := [], laidByText := true, laidKinds := [.sentinel, .sentinel, .sentinel, .sentinel, .sentinel, .sentinel, .sentinel], laidTests := true, laidLooks := .later }
def FnExactBadNamingCardSaid : Prop := Claim7.holds Tryz.pinned (.plain (OpenSpec.ofChange fnExactBadNamingSpec)) fnExactBadNamingCard

/-- THE SECOND FORM's CARD OF 'laws.FnExactFewestGraph'. -/
def fnExactFewestGraphUptoCard : Claim7 := { stood := { row := fnExactFewestGraphUptoRow, standIns := [], harness := (true, "b9673fd5cc5e9cc8eb6f2e00fa81f054124b633627e57dc5b17ccaedc620d526"), looks := false }, kinds := [], alts := [], laidByText := true, laidKinds := [.sentinel, .sentinel, .sentinel, .sentinel, .sentinel, .sentinel, .sentinel, .sentinel], laidTests := true, laidLooks := .later }
def FnExactFewestGraphUptoCardSaid : Prop := Claim7.holds Tryz.pinned (.plain (OpenSpec.upto fnExactFewestGraphSpec)) fnExactFewestGraphUptoCard

/-- THE SECOND FORM's CARD OF 'laws.FnExactIsFewest'. -/
def fnExactIsFewestUptoCard : Claim7 := { stood := { row := fnExactIsFewestUptoRow, standIns := [], harness := (true, "b9673fd5cc5e9cc8eb6f2e00fa81f054124b633627e57dc5b17ccaedc620d526"), looks := false }, kinds := [], alts := [], laidByText := true, laidKinds := [.sentinel, .sentinel, .sentinel, .sentinel, .sentinel, .sentinel, .sentinel, .sentinel], laidTests := true, laidLooks := .later }
def FnExactIsFewestUptoCardSaid : Prop := Claim7.holds Tryz.pinned (.plain (OpenSpec.upto fnExactIsFewestSpec)) fnExactIsFewestUptoCard

/-- THE SECOND FORM's CARD OF 'laws.FnExactBadNaming'. -/
def fnExactBadNamingUptoCard : Claim7 := { stood := { row := fnExactBadNamingUptoRow, standIns := [], harness := (true, "b9673fd5cc5e9cc8eb6f2e00fa81f054124b633627e57dc5b17ccaedc620d526"), looks := false }, kinds := [], alts := [], laidByText := true, laidKinds := [.sentinel, .sentinel, .sentinel, .sentinel, .sentinel, .sentinel, .sentinel], laidTests := true, laidLooks := .later }
def FnExactBadNamingUptoCardSaid : Prop := Claim7.holds Tryz.pinned (.plain (OpenSpec.upto fnExactBadNamingSpec)) fnExactBadNamingUptoCard
end Rows
end Go.Proofs.YtgehpaojbnpbcaaGreatDoor
