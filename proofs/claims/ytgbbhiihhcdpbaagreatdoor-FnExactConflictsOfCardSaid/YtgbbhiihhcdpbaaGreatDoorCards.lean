/-
  DERIVED. GIVEN WITH THE SEED: THE CARDS: each row of YtgbbhiihhcdpbaaGreatDoorRows.lean that lists a variable, with what it lists TIED to the program's text (the seventh form; the later family's looks); each row that meets fmt, with fmt's text TOLD by the authors' own Lean function (tested against real Go, not proved from fmt's source: count such statements apart). THE CARD IS WHAT COUNTS. Prove the row's statement (the work); the ties are given (YtgbbhiihhcdpbaaGreatDoorTie.lean); close each card by the builder's one call (the guide's Derived/Test/ToyasCard.lean, 'card_holds'). Laid BY PROGRAM, IN A SANDBOX (cutbox-door.mjs). By AI agents, Wed Nov 11 2026. No macro, syntax, notation, axiom, sorry.
-/
import Derived.Test.YtgbbhiihhcdpbaaGreatDoorRows
import GoSem.ClaimSeven
namespace Go.Proofs.YtgbbhiihhcdpbaaGreatDoor
namespace Rows

/-- THE TIED CARD OF 'laws.FnFresh'. -/
def fnFreshCard : Claim7 := { stood := { row := fnFreshRow, standIns := [], harness := (true, "49781b38d0f459381b335a807a844d310df037f336c91f3e96c3fdbd04c8a818"), looks := false }, kinds := [], alts := [], laidByText := true, laidKinds := [.data, .data, .data, .sentinel, .sentinel, .sentinel, .sentinel, .sentinel, .sentinel, .sentinel], laidTests := true, laidLooks := .later }
def FnFreshCardSaid : Prop := Claim7.holds Tryz.pinned (.plain (OpenSpec.ofChange fnFreshSpec)) fnFreshCard

/-- THE TIED CARD OF 'laws.FnNamed'. -/
def fnNamedCard : Claim7 := { stood := { row := fnNamedRow, standIns := [], harness := (true, "49781b38d0f459381b335a807a844d310df037f336c91f3e96c3fdbd04c8a818"), looks := false }, kinds := [], alts := [], laidByText := true, laidKinds := [.data, .data, .data, .sentinel, .sentinel, .sentinel, .sentinel, .sentinel, .sentinel, .sentinel], laidTests := true, laidLooks := .later }
def FnNamedCardSaid : Prop := Claim7.holds Tryz.pinned (.plain (OpenSpec.ofChange fnNamedSpec)) fnNamedCard

/-- THE TIED CARD OF 'laws.FnShare'. -/
def fnShareCard : Claim7 := { stood := { row := fnShareRow, standIns := [], harness := (true, "49781b38d0f459381b335a807a844d310df037f336c91f3e96c3fdbd04c8a818"), looks := false }, kinds := [], alts := [], laidByText := true, laidKinds := [.sentinel, .sentinel, .sentinel, .sentinel, .sentinel, .sentinel, .sentinel, .sentinel], laidTests := true, laidLooks := .later }
def FnShareCardSaid : Prop := Claim7.holds Tryz.pinned (.plain (OpenSpec.ofChange fnShareSpec)) fnShareCard

/-- THE TIED CARD OF 'laws.FnExactFewestGraph'. -/
def fnExactFewestGraphCard : Claim7 := { stood := { row := fnExactFewestGraphRow, standIns := [], harness := (true, "49781b38d0f459381b335a807a844d310df037f336c91f3e96c3fdbd04c8a818"), looks := false }, kinds := [], alts := [], laidByText := true, laidKinds := [.sentinel, .sentinel, .sentinel, .sentinel, .sentinel, .sentinel, .sentinel, .sentinel], laidTests := true, laidLooks := .later }
def FnExactFewestGraphCardSaid : Prop := Claim7.holds Tryz.pinned (.plain (OpenSpec.ofChange fnExactFewestGraphSpec)) fnExactFewestGraphCard

/-- THE TIED CARD OF 'laws.FnExactConflictsOf'. -/
def fnExactConflictsOfCard : Claim7 := { stood := { row := fnExactConflictsOfRow, standIns := [], harness := (true, "49781b38d0f459381b335a807a844d310df037f336c91f3e96c3fdbd04c8a818"), looks := false }, kinds := [], alts := [], laidByText := true, laidKinds := [.sentinel, .sentinel, .sentinel, .sentinel, .sentinel, .sentinel, .sentinel, .sentinel], laidTests := true, laidLooks := .later }
def FnExactConflictsOfCardSaid : Prop := Claim7.holds Tryz.pinned (.plain (OpenSpec.ofChange fnExactConflictsOfSpec)) fnExactConflictsOfCard

/-- THE TIED CARD OF 'laws.FnExactIsFewest'. -/
def fnExactIsFewestCard : Claim7 := { stood := { row := fnExactIsFewestRow, standIns := [], harness := (true, "49781b38d0f459381b335a807a844d310df037f336c91f3e96c3fdbd04c8a818"), looks := false }, kinds := [], alts := [], laidByText := true, laidKinds := [.sentinel, .sentinel, .sentinel, .sentinel, .sentinel, .sentinel, .sentinel, .sentinel], laidTests := true, laidLooks := .later }
def FnExactIsFewestCardSaid : Prop := Claim7.holds Tryz.pinned (.plain (OpenSpec.ofChange fnExactIsFewestSpec)) fnExactIsFewestCard

/-- THE TIED CARD OF 'laws.FnExactFreshGraph'. -/
def fnExactFreshGraphCard : Claim7 := { stood := { row := fnExactFreshGraphRow, standIns := [], harness := (true, "49781b38d0f459381b335a807a844d310df037f336c91f3e96c3fdbd04c8a818"), looks := false }, kinds := [], alts := [], laidByText := true, laidKinds := [.sentinel, .sentinel, .sentinel, .sentinel, .sentinel, .sentinel, .sentinel], laidTests := true, laidLooks := .later }
def FnExactFreshGraphCardSaid : Prop := Claim7.holds Tryz.pinned (.plain (OpenSpec.ofChange fnExactFreshGraphSpec)) fnExactFreshGraphCard

/-- THE SECOND FORM's CARD OF 'laws.FnFresh'. -/
def fnFreshUptoCard : Claim7 := { stood := { row := fnFreshUptoRow, standIns := [], harness := (true, "49781b38d0f459381b335a807a844d310df037f336c91f3e96c3fdbd04c8a818"), looks := false }, kinds := [], alts := [], laidByText := true, laidKinds := [.data, .data, .data, .sentinel, .sentinel, .sentinel, .sentinel, .sentinel, .sentinel, .sentinel], laidTests := true, laidLooks := .later }
def FnFreshUptoCardSaid : Prop := Claim7.holds Tryz.pinned (.plain (OpenSpec.upto fnFreshSpec)) fnFreshUptoCard

/-- THE SECOND FORM's CARD OF 'laws.FnNamed'. -/
def fnNamedUptoCard : Claim7 := { stood := { row := fnNamedUptoRow, standIns := [], harness := (true, "49781b38d0f459381b335a807a844d310df037f336c91f3e96c3fdbd04c8a818"), looks := false }, kinds := [], alts := [], laidByText := true, laidKinds := [.data, .data, .data, .sentinel, .sentinel, .sentinel, .sentinel, .sentinel, .sentinel, .sentinel], laidTests := true, laidLooks := .later }
def FnNamedUptoCardSaid : Prop := Claim7.holds Tryz.pinned (.plain (OpenSpec.upto fnNamedSpec)) fnNamedUptoCard

/-- THE SECOND FORM's CARD OF 'laws.FnShare'. -/
def fnShareUptoCard : Claim7 := { stood := { row := fnShareUptoRow, standIns := [], harness := (true, "49781b38d0f459381b335a807a844d310df037f336c91f3e96c3fdbd04c8a818"), looks := false }, kinds := [], alts := [], laidByText := true, laidKinds := [.sentinel, .sentinel, .sentinel, .sentinel, .sentinel, .sentinel, .sentinel, .sentinel], laidTests := true, laidLooks := .later }
def FnShareUptoCardSaid : Prop := Claim7.holds Tryz.pinned (.plain (OpenSpec.upto fnShareSpec)) fnShareUptoCard

/-- THE SECOND FORM's CARD OF 'laws.FnExactFewestGraph'. -/
def fnExactFewestGraphUptoCard : Claim7 := { stood := { row := fnExactFewestGraphUptoRow, standIns := [], harness := (true, "49781b38d0f459381b335a807a844d310df037f336c91f3e96c3fdbd04c8a818"), looks := false }, kinds := [], alts := [], laidByText := true, laidKinds := [.sentinel, .sentinel, .sentinel, .sentinel, .sentinel, .sentinel, .sentinel, .sentinel], laidTests := true, laidLooks := .later }
def FnExactFewestGraphUptoCardSaid : Prop := Claim7.holds Tryz.pinned (.plain (OpenSpec.upto fnExactFewestGraphSpec)) fnExactFewestGraphUptoCard

/-- THE SECOND FORM's CARD OF 'laws.FnExactConflictsOf'. -/
def fnExactConflictsOfUptoCard : Claim7 := { stood := { row := fnExactConflictsOfUptoRow, standIns := [], harness := (true, "49781b38d0f459381b335a807a844d310df037f336c91f3e96c3fdbd04c8a818"), looks := false }, kinds := [], alts := [], laidByText := true, laidKinds := [.sentinel, .sentinel, .sentinel, .sentinel, .sentinel, .sentinel, .sentinel, .sentinel], laidTests := true, laidLooks := .later }
def FnExactConflictsOfUptoCardSaid : Prop := Claim7.holds Tryz.pinned (.plain (OpenSpec.upto fnExactConflictsOfSpec)) fnExactConflictsOfUptoCard

/-- THE SECOND FORM's CARD OF 'laws.FnExactIsFewest'. -/
def fnExactIsFewestUptoCard : Claim7 := { stood := { row := fnExactIsFewestUptoRow, standIns := [], harness := (true, "49781b38d0f459381b335a807a844d310df037f336c91f3e96c3fdbd04c8a818"), looks := false }, kinds := [], alts := [], laidByText := true, laidKinds := [.sentinel, .sentinel, .sentinel, .sentinel, .sentinel, .sentinel, .sentinel, .sentinel], laidTests := true, laidLooks := .later }
def FnExactIsFewestUptoCardSaid : Prop := Claim7.holds Tryz.pinned (.plain (OpenSpec.upto fnExactIsFewestSpec)) fnExactIsFewestUptoCard

/-- THE SECOND FORM's CARD OF 'laws.FnExactFreshGraph'. -/
def fnExactFreshGraphUptoCard : Claim7 := { stood := { row := fnExactFreshGraphUptoRow, standIns := [], harness := (true, "49781b38d0f459381b335a807a844d310df037f336c91f3e96c3fdbd04c8a818"), looks := false }, kinds := [], alts := [], laidByText := true, laidKinds := [.sentinel, .sentinel, .sentinel, .sentinel, .sentinel, .sentinel, .sentinel], laidTests := true, laidLooks := .later }
def FnExactFreshGraphUptoCardSaid : Prop := Claim7.holds Tryz.pinned (.plain (OpenSpec.upto fnExactFreshGraphSpec)) fnExactFreshGraphUptoCard
end Rows
end Go.Proofs.YtgbbhiihhcdpbaaGreatDoor
