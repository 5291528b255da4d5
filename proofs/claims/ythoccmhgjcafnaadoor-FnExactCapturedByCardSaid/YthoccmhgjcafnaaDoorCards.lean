/-
  DERIVED. GIVEN WITH THE SEED: THE CARDS: each row of YthoccmhgjcafnaaDoorRows.lean that lists a variable, with what it lists TIED to the program's text (the seventh form; the later family's looks); each row that meets fmt, with fmt's text TOLD by the authors' own Lean function (tested against real Go, not proved from fmt's source: count such statements apart). THE CARD IS WHAT COUNTS. Prove the row's statement (the work); the ties are given (YthoccmhgjcafnaaDoorTie.lean); close each card by the builder's one call (the guide's Derived/Test/ToyasCard.lean, 'card_holds'). Laid BY PROGRAM, IN A SANDBOX (cutbox-door.mjs). By AI agents, Wed Nov 11 2026. No macro, syntax, notation, axiom, sorry.
-/
import Derived.Test.YthoccmhgjcafnaaDoorRows
import GoSem.ClaimSeven
namespace Go.Proofs.YthoccmhgjcafnaaDoor
namespace Rows

/-- THE TIED CARD OF 'laws.FnExactCapturedBy'. -/
def fnExactCapturedByCard : Claim7 := { stood := { row := fnExactCapturedByRow, standIns := [], harness := (true, "d9c706f734b22eccdcde47fafc89cff4443a8e02a64202dba308faefaf9b0acb"), looks := false }, kinds := [], alts := [], laidByText := true, laidKinds := [.sentinel, .sentinel, .sentinel, .sentinel, .sentinel, .sentinel, .sentinel, .sentinel], laidTests := true, laidLooks := .later }
def FnExactCapturedByCardSaid : Prop := Claim7.holds Tryd.pinned (.plain (OpenSpec.ofChange fnExactCapturedBySpec)) fnExactCapturedByCard

/-- THE TIED CARD OF 'laws.FnExactCanAdd'. -/
def fnExactCanAddCard : Claim7 := { stood := { row := fnExactCanAddRow, standIns := [], harness := (true, "d9c706f734b22eccdcde47fafc89cff4443a8e02a64202dba308faefaf9b0acb"), looks := false }, kinds := [], alts := [], laidByText := true, laidKinds := [.sentinel, .sentinel, .sentinel, .sentinel, .sentinel, .sentinel, .sentinel, .sentinel], laidTests := true, laidLooks := .later }
def FnExactCanAddCardSaid : Prop := Claim7.holds Tryd.pinned (.plain (OpenSpec.ofChange fnExactCanAddSpec)) fnExactCanAddCard

/-- THE TIED CARD OF 'laws.FnExactAddableNames'. -/
def fnExactAddableNamesCard : Claim7 := { stood := { row := fnExactAddableNamesRow, standIns := [], harness := (true, "d9c706f734b22eccdcde47fafc89cff4443a8e02a64202dba308faefaf9b0acb"), looks := false }, kinds := [], alts := [], laidByText := true, laidKinds := [.sentinel, .sentinel, .sentinel, .sentinel, .sentinel, .sentinel, .sentinel, .sentinel], laidTests := true, laidLooks := .later }
def FnExactAddableNamesCardSaid : Prop := Claim7.holds Tryd.pinned (.plain (OpenSpec.ofChange fnExactAddableNamesSpec)) fnExactAddableNamesCard

/-- THE TIED CARD OF 'laws.FnExactImportChanges'. -/
def fnExactImportChangesCard : Claim7 := { stood := { row := fnExactImportChangesRow, standIns := [], harness := (true, "d9c706f734b22eccdcde47fafc89cff4443a8e02a64202dba308faefaf9b0acb"), looks := false }, kinds := [], alts := [], laidByText := true, laidKinds := [.sentinel, .sentinel, .sentinel, .sentinel, .sentinel, .sentinel, .sentinel, .sentinel], laidTests := true, laidLooks := .later }
def FnExactImportChangesCardSaid : Prop := Claim7.holds Tryd.pinned (.plain (OpenSpec.ofChange fnExactImportChangesSpec)) fnExactImportChangesCard

/-- THE SECOND FORM's CARD OF 'laws.FnExactCapturedBy'. -/
def fnExactCapturedByUptoCard : Claim7 := { stood := { row := fnExactCapturedByUptoRow, standIns := [], harness := (true, "d9c706f734b22eccdcde47fafc89cff4443a8e02a64202dba308faefaf9b0acb"), looks := false }, kinds := [], alts := [], laidByText := true, laidKinds := [.sentinel, .sentinel, .sentinel, .sentinel, .sentinel, .sentinel, .sentinel, .sentinel], laidTests := true, laidLooks := .later }
def FnExactCapturedByUptoCardSaid : Prop := Claim7.holds Tryd.pinned (.plain (OpenSpec.upto fnExactCapturedBySpec)) fnExactCapturedByUptoCard

/-- THE SECOND FORM's CARD OF 'laws.FnExactCanAdd'. -/
def fnExactCanAddUptoCard : Claim7 := { stood := { row := fnExactCanAddUptoRow, standIns := [], harness := (true, "d9c706f734b22eccdcde47fafc89cff4443a8e02a64202dba308faefaf9b0acb"), looks := false }, kinds := [], alts := [], laidByText := true, laidKinds := [.sentinel, .sentinel, .sentinel, .sentinel, .sentinel, .sentinel, .sentinel, .sentinel], laidTests := true, laidLooks := .later }
def FnExactCanAddUptoCardSaid : Prop := Claim7.holds Tryd.pinned (.plain (OpenSpec.upto fnExactCanAddSpec)) fnExactCanAddUptoCard

/-- THE SECOND FORM's CARD OF 'laws.FnExactAddableNames'. -/
def fnExactAddableNamesUptoCard : Claim7 := { stood := { row := fnExactAddableNamesUptoRow, standIns := [], harness := (true, "d9c706f734b22eccdcde47fafc89cff4443a8e02a64202dba308faefaf9b0acb"), looks := false }, kinds := [], alts := [], laidByText := true, laidKinds := [.sentinel, .sentinel, .sentinel, .sentinel, .sentinel, .sentinel, .sentinel, .sentinel], laidTests := true, laidLooks := .later }
def FnExactAddableNamesUptoCardSaid : Prop := Claim7.holds Tryd.pinned (.plain (OpenSpec.upto fnExactAddableNamesSpec)) fnExactAddableNamesUptoCard

/-- THE SECOND FORM's CARD OF 'laws.FnExactImportChanges'. -/
def fnExactImportChangesUptoCard : Claim7 := { stood := { row := fnExactImportChangesUptoRow, standIns := [], harness := (true, "d9c706f734b22eccdcde47fafc89cff4443a8e02a64202dba308faefaf9b0acb"), looks := false }, kinds := [], alts := [], laidByText := true, laidKinds := [.sentinel, .sentinel, .sentinel, .sentinel, .sentinel, .sentinel, .sentinel, .sentinel], laidTests := true, laidLooks := .later }
def FnExactImportChangesUptoCardSaid : Prop := Claim7.holds Tryd.pinned (.plain (OpenSpec.upto fnExactImportChangesSpec)) fnExactImportChangesUptoCard
end Rows
end Go.Proofs.YthoccmhgjcafnaaDoor
