/-
  DERIVED. GIVEN WITH THE SEED: THE CARDS: each row of YtcgdligjbkjkcaaDoorRows.lean that lists a variable, with what it lists TIED to the program's text (the seventh form; the later family's looks); each row that meets fmt, with fmt's text TOLD by the authors' own Lean function (tested against real Go, not proved from fmt's source: count such statements apart). THE CARD IS WHAT COUNTS. Prove the row's statement (the work); the ties are given (YtcgdligjbkjkcaaDoorTie.lean); close each card by the builder's one call (the guide's Derived/Test/ToyasCard.lean, 'card_holds'). Laid BY PROGRAM, IN A SANDBOX (cutbox-door.mjs). By AI agents, Wed Nov 11 2026. No macro, syntax, notation, axiom, sorry.
-/
import Derived.Test.YtcgdligjbkjkcaaDoorRows
import GoSem.ClaimSeven
namespace Go.Proofs.YtcgdligjbkjkcaaDoor
namespace Rows

/-- THE TIED CARD OF 'laws.FnExactLookUpWay'. -/
def fnExactLookUpWayCard : Claim7 := { stood := { row := fnExactLookUpWayRow, standIns := [], harness := (true, "b2695c89a1bf0934b273c724ba9892e2c9df29296fdbf6b66fc87fa476e272cf"), looks := false }, kinds := [], alts := [], laidByText := true, laidKinds := [.sentinel, .sentinel, .sentinel, .sentinel, .sentinel, .sentinel, .sentinel], laidTests := true, laidLooks := .later }
def FnExactLookUpWayCardSaid : Prop := Claim7.holds Tryd.pinned (.plain (OpenSpec.ofChange fnExactLookUpWaySpec)) fnExactLookUpWayCard

/-- THE SECOND FORM's CARD OF 'laws.FnExactLookUpWay'. -/
def fnExactLookUpWayUptoCard : Claim7 := { stood := { row := fnExactLookUpWayUptoRow, standIns := [], harness := (true, "b2695c89a1bf0934b273c724ba9892e2c9df29296fdbf6b66fc87fa476e272cf"), looks := false }, kinds := [], alts := [], laidByText := true, laidKinds := [.sentinel, .sentinel, .sentinel, .sentinel, .sentinel, .sentinel, .sentinel], laidTests := true, laidLooks := .later }
def FnExactLookUpWayUptoCardSaid : Prop := Claim7.holds Tryd.pinned (.plain (OpenSpec.upto fnExactLookUpWaySpec)) fnExactLookUpWayUptoCard
end Rows
end Go.Proofs.YtcgdligjbkjkcaaDoor
