/-
  DERIVED. GIVEN WITH THE SEED: THE CARDS: each row of YtmfglfhloahmlaaDoorRows.lean that lists a variable, with what it lists TIED to the program's text (the seventh form; the later family's looks); each row that meets fmt, with fmt's text TOLD by the authors' own Lean function (tested against real Go, not proved from fmt's source: count such statements apart). THE CARD IS WHAT COUNTS. Prove the row's statement (the work); the ties are given (YtmfglfhloahmlaaDoorTie.lean); close each card by the builder's one call (the guide's Derived/Test/ToyasCard.lean, 'card_holds'). Laid BY PROGRAM, IN A SANDBOX (cutbox-door.mjs). By AI agents, Wed Nov 11 2026. No macro, syntax, notation, axiom, sorry.
-/
import Derived.Test.YtmfglfhloahmlaaDoorRows
import GoSem.ClaimSeven
namespace Go.Proofs.YtmfglfhloahmlaaDoor
namespace Rows

/-- THE TIED CARD OF 'laws.FnExactImportCircles'. -/
def fnExactImportCirclesCard : Claim7 := { stood := { row := fnExactImportCirclesRow, standIns := [], harness := (true, "9c5f2bd39e30701a572bc7a1a3364fae37262c2a6fd469ed0332fd710d7a8d23"), looks := false }, kinds := [], alts := [], laidByText := true, laidKinds := [.sentinel, .sentinel, .sentinel, .sentinel, .sentinel], laidTests := true, laidLooks := .later }
def FnExactImportCirclesCardSaid : Prop := Claim7.holds Tryd.pinned (.plain (OpenSpec.ofChange fnExactImportCirclesSpec)) fnExactImportCirclesCard

/-- THE TIED CARD OF 'laws.FnExactNameOfState'. -/
def fnExactNameOfStateCard : Claim7 := { stood := { row := fnExactNameOfStateRow, standIns := [], harness := (true, "9c5f2bd39e30701a572bc7a1a3364fae37262c2a6fd469ed0332fd710d7a8d23"), looks := false }, kinds := [], alts := [], laidByText := true, laidKinds := [.data], laidTests := true, laidLooks := .later }
def FnExactNameOfStateCardSaid : Prop := Claim7.holds Tryd.pinned (.plain (OpenSpec.ofChange fnExactNameOfStateSpec)) fnExactNameOfStateCard

/-- THE TIED CARD OF 'laws.FnExactTableOf'. -/
def fnExactTableOfCard : Claim7 := { stood := { row := fnExactTableOfRow, standIns := [], harness := (true, "9c5f2bd39e30701a572bc7a1a3364fae37262c2a6fd469ed0332fd710d7a8d23"), looks := false }, kinds := [], alts := [], laidByText := true, laidKinds := [.data, .data, .data, .sentinel, .sentinel, .sentinel, .sentinel, .sentinel], laidTests := true, laidLooks := .later }
def FnExactTableOfCardSaid : Prop := Claim7.holds Tryd.pinned (.plain (OpenSpec.ofChange fnExactTableOfSpec)) fnExactTableOfCard

/-- THE TIED CARD OF 'laws.FnExactImportedScopes'. -/
def fnExactImportedScopesCard : Claim7 := { stood := { row := fnExactImportedScopesRow, standIns := [], harness := (true, "9c5f2bd39e30701a572bc7a1a3364fae37262c2a6fd469ed0332fd710d7a8d23"), looks := false }, kinds := [], alts := [], laidByText := true, laidKinds := [.sentinel, .sentinel, .sentinel, .sentinel, .sentinel, .sentinel], laidTests := true, laidLooks := .later }
def FnExactImportedScopesCardSaid : Prop := Claim7.holds Tryd.pinned (.plain (OpenSpec.ofChange fnExactImportedScopesSpec)) fnExactImportedScopesCard

/-- THE TIED CARD OF 'laws.FnExactImportedOf'. -/
def fnExactImportedOfCard : Claim7 := { stood := { row := fnExactImportedOfRow, standIns := [], harness := (true, "9c5f2bd39e30701a572bc7a1a3364fae37262c2a6fd469ed0332fd710d7a8d23"), looks := false }, kinds := [], alts := [], laidByText := true, laidKinds := [.sentinel, .sentinel, .sentinel, .sentinel, .sentinel, .sentinel, .sentinel], laidTests := true, laidLooks := .later }
def FnExactImportedOfCardSaid : Prop := Claim7.holds Tryd.pinned (.plain (OpenSpec.ofChange fnExactImportedOfSpec)) fnExactImportedOfCard

/-- THE TIED CARD OF 'laws.FnExactLookUp'. -/
def fnExactLookUpCard : Claim7 := { stood := { row := fnExactLookUpRow, standIns := [], harness := (true, "9c5f2bd39e30701a572bc7a1a3364fae37262c2a6fd469ed0332fd710d7a8d23"), looks := false }, kinds := [], alts := [], laidByText := true, laidKinds := [.sentinel, .sentinel, .sentinel, .sentinel, .sentinel, .sentinel, .sentinel], laidTests := true, laidLooks := .later }
def FnExactLookUpCardSaid : Prop := Claim7.holds Tryd.pinned (.plain (OpenSpec.ofChange fnExactLookUpSpec)) fnExactLookUpCard

/-- THE TIED CARD OF 'laws.FnExactLookUpWay'. -/
def fnExactLookUpWayCard : Claim7 := { stood := { row := fnExactLookUpWayRow, standIns := [], harness := (true, "9c5f2bd39e30701a572bc7a1a3364fae37262c2a6fd469ed0332fd710d7a8d23"), looks := false }, kinds := [], alts := [], laidByText := true, laidKinds := [.sentinel, .sentinel, .sentinel, .sentinel, .sentinel, .sentinel, .sentinel], laidTests := true, laidLooks := .later }
def FnExactLookUpWayCardSaid : Prop := Claim7.holds Tryd.pinned (.plain (OpenSpec.ofChange fnExactLookUpWaySpec)) fnExactLookUpWayCard

/-- THE TIED CARD OF 'laws.FnExactImportTarget'. -/
def fnExactImportTargetCard : Claim7 := { stood := { row := fnExactImportTargetRow, standIns := [], harness := (true, "9c5f2bd39e30701a572bc7a1a3364fae37262c2a6fd469ed0332fd710d7a8d23"), looks := false }, kinds := [], alts := [], laidByText := true, laidKinds := [.sentinel, .sentinel, .sentinel, .sentinel, .sentinel], laidTests := true, laidLooks := .later }
def FnExactImportTargetCardSaid : Prop := Claim7.holds Tryd.pinned (.plain (OpenSpec.ofChange fnExactImportTargetSpec)) fnExactImportTargetCard

/-- THE TIED CARD OF 'laws.FnLookUp'. -/
def fnLookUpCard : Claim7 := { stood := { row := fnLookUpRow, standIns := [], harness := (true, "9c5f2bd39e30701a572bc7a1a3364fae37262c2a6fd469ed0332fd710d7a8d23"), looks := false }, kinds := [], alts := [], laidByText := true, laidKinds := [.sentinel, .sentinel, .sentinel, .sentinel, .sentinel, .sentinel, .sentinel], laidTests := true, laidLooks := .later }
def FnLookUpCardSaid : Prop := Claim7.holds Tryd.pinned (.plain (OpenSpec.ofChange fnLookUpSpec)) fnLookUpCard

/-- THE TIED CARD OF 'laws.FnChain'. -/
def fnChainCard : Claim7 := { stood := { row := fnChainRow, standIns := [], harness := (true, "9c5f2bd39e30701a572bc7a1a3364fae37262c2a6fd469ed0332fd710d7a8d23"), looks := false }, kinds := [], alts := [], laidByText := true, laidKinds := [.sentinel, .sentinel, .sentinel, .sentinel, .sentinel, .sentinel], laidTests := true, laidLooks := .later }
def FnChainCardSaid : Prop := Claim7.holds Tryd.pinned (.plain (OpenSpec.ofChange fnChainSpec)) fnChainCard

/-- THE TIED CARD OF 'laws.FnCommonScope'. -/
def fnCommonScopeCard : Claim7 := { stood := { row := fnCommonScopeRow, standIns := [], harness := (true, "9c5f2bd39e30701a572bc7a1a3364fae37262c2a6fd469ed0332fd710d7a8d23"), looks := false }, kinds := [], alts := [], laidByText := true, laidKinds := [.sentinel, .sentinel, .sentinel, .sentinel, .sentinel, .sentinel], laidTests := true, laidLooks := .later }
def FnCommonScopeCardSaid : Prop := Claim7.holds Tryd.pinned (.plain (OpenSpec.ofChange fnCommonScopeSpec)) fnCommonScopeCard

/-- THE TIED CARD OF 'laws.FnImported'. -/
def fnImportedCard : Claim7 := { stood := { row := fnImportedRow, standIns := [], harness := (true, "9c5f2bd39e30701a572bc7a1a3364fae37262c2a6fd469ed0332fd710d7a8d23"), looks := false }, kinds := [], alts := [], laidByText := true, laidKinds := [.sentinel, .sentinel, .sentinel, .sentinel, .sentinel, .sentinel, .sentinel], laidTests := true, laidLooks := .later }
def FnImportedCardSaid : Prop := Claim7.holds Tryd.pinned (.plain (OpenSpec.ofChange fnImportedSpec)) fnImportedCard

/-- THE SECOND FORM's CARD OF 'laws.FnExactImportCircles'. -/
def fnExactImportCirclesUptoCard : Claim7 := { stood := { row := fnExactImportCirclesUptoRow, standIns := [], harness := (true, "9c5f2bd39e30701a572bc7a1a3364fae37262c2a6fd469ed0332fd710d7a8d23"), looks := false }, kinds := [], alts := [], laidByText := true, laidKinds := [.sentinel, .sentinel, .sentinel, .sentinel, .sentinel], laidTests := true, laidLooks := .later }
def FnExactImportCirclesUptoCardSaid : Prop := Claim7.holds Tryd.pinned (.plain (OpenSpec.upto fnExactImportCirclesSpec)) fnExactImportCirclesUptoCard

/-- THE SECOND FORM's CARD OF 'laws.FnExactNameOfState'. -/
def fnExactNameOfStateUptoCard : Claim7 := { stood := { row := fnExactNameOfStateUptoRow, standIns := [], harness := (true, "9c5f2bd39e30701a572bc7a1a3364fae37262c2a6fd469ed0332fd710d7a8d23"), looks := false }, kinds := [], alts := [], laidByText := true, laidKinds := [.data], laidTests := true, laidLooks := .later }
def FnExactNameOfStateUptoCardSaid : Prop := Claim7.holds Tryd.pinned (.plain (OpenSpec.upto fnExactNameOfStateSpec)) fnExactNameOfStateUptoCard

/-- THE SECOND FORM's CARD OF 'laws.FnExactTableOf'. -/
def fnExactTableOfUptoCard : Claim7 := { stood := { row := fnExactTableOfUptoRow, standIns := [], harness := (true, "9c5f2bd39e30701a572bc7a1a3364fae37262c2a6fd469ed0332fd710d7a8d23"), looks := false }, kinds := [], alts := [], laidByText := true, laidKinds := [.data, .data, .data, .sentinel, .sentinel, .sentinel, .sentinel, .sentinel], laidTests := true, laidLooks := .later }
def FnExactTableOfUptoCardSaid : Prop := Claim7.holds Tryd.pinned (.plain (OpenSpec.upto fnExactTableOfSpec)) fnExactTableOfUptoCard

/-- THE SECOND FORM's CARD OF 'laws.FnExactImportedScopes'. -/
def fnExactImportedScopesUptoCard : Claim7 := { stood := { row := fnExactImportedScopesUptoRow, standIns := [], harness := (true, "9c5f2bd39e30701a572bc7a1a3364fae37262c2a6fd469ed0332fd710d7a8d23"), looks := false }, kinds := [], alts := [], laidByText := true, laidKinds := [.sentinel, .sentinel, .sentinel, .sentinel, .sentinel, .sentinel], laidTests := true, laidLooks := .later }
def FnExactImportedScopesUptoCardSaid : Prop := Claim7.holds Tryd.pinned (.plain (OpenSpec.upto fnExactImportedScopesSpec)) fnExactImportedScopesUptoCard

/-- THE SECOND FORM's CARD OF 'laws.FnExactImportedOf'. -/
def fnExactImportedOfUptoCard : Claim7 := { stood := { row := fnExactImportedOfUptoRow, standIns := [], harness := (true, "9c5f2bd39e30701a572bc7a1a3364fae37262c2a6fd469ed0332fd710d7a8d23"), looks := false }, kinds := [], alts := [], laidByText := true, laidKinds := [.sentinel, .sentinel, .sentinel, .sentinel, .sentinel, .sentinel, .sentinel], laidTests := true, laidLooks := .later }
def FnExactImportedOfUptoCardSaid : Prop := Claim7.holds Tryd.pinned (.plain (OpenSpec.upto fnExactImportedOfSpec)) fnExactImportedOfUptoCard

/-- THE SECOND FORM's CARD OF 'laws.FnExactLookUp'. -/
def fnExactLookUpUptoCard : Claim7 := { stood := { row := fnExactLookUpUptoRow, standIns := [], harness := (true, "9c5f2bd39e30701a572bc7a1a3364fae37262c2a6fd469ed0332fd710d7a8d23"), looks := false }, kinds := [], alts := [], laidByText := true, laidKinds := [.sentinel, .sentinel, .sentinel, .sentinel, .sentinel, .sentinel, .sentinel], laidTests := true, laidLooks := .later }
def FnExactLookUpUptoCardSaid : Prop := Claim7.holds Tryd.pinned (.plain (OpenSpec.upto fnExactLookUpSpec)) fnExactLookUpUptoCard

/-- THE SECOND FORM's CARD OF 'laws.FnExactLookUpWay'. -/
def fnExactLookUpWayUptoCard : Claim7 := { stood := { row := fnExactLookUpWayUptoRow, standIns := [], harness := (true, "9c5f2bd39e30701a572bc7a1a3364fae37262c2a6fd469ed0332fd710d7a8d23"), looks := false }, kinds := [], alts := [], laidByText := true, laidKinds := [.sentinel, .sentinel, .sentinel, .sentinel, .sentinel, .sentinel, .sentinel], laidTests := true, laidLooks := .later }
def FnExactLookUpWayUptoCardSaid : Prop := Claim7.holds Tryd.pinned (.plain (OpenSpec.upto fnExactLookUpWaySpec)) fnExactLookUpWayUptoCard

/-- THE SECOND FORM's CARD OF 'laws.FnExactImportTarget'. -/
def fnExactImportTargetUptoCard : Claim7 := { stood := { row := fnExactImportTargetUptoRow, standIns := [], harness := (true, "9c5f2bd39e30701a572bc7a1a3364fae37262c2a6fd469ed0332fd710d7a8d23"), looks := false }, kinds := [], alts := [], laidByText := true, laidKinds := [.sentinel, .sentinel, .sentinel, .sentinel, .sentinel], laidTests := true, laidLooks := .later }
def FnExactImportTargetUptoCardSaid : Prop := Claim7.holds Tryd.pinned (.plain (OpenSpec.upto fnExactImportTargetSpec)) fnExactImportTargetUptoCard

/-- THE SECOND FORM's CARD OF 'laws.FnLookUp'. -/
def fnLookUpUptoCard : Claim7 := { stood := { row := fnLookUpUptoRow, standIns := [], harness := (true, "9c5f2bd39e30701a572bc7a1a3364fae37262c2a6fd469ed0332fd710d7a8d23"), looks := false }, kinds := [], alts := [], laidByText := true, laidKinds := [.sentinel, .sentinel, .sentinel, .sentinel, .sentinel, .sentinel, .sentinel], laidTests := true, laidLooks := .later }
def FnLookUpUptoCardSaid : Prop := Claim7.holds Tryd.pinned (.plain (OpenSpec.upto fnLookUpSpec)) fnLookUpUptoCard

/-- THE SECOND FORM's CARD OF 'laws.FnChain'. -/
def fnChainUptoCard : Claim7 := { stood := { row := fnChainUptoRow, standIns := [], harness := (true, "9c5f2bd39e30701a572bc7a1a3364fae37262c2a6fd469ed0332fd710d7a8d23"), looks := false }, kinds := [], alts := [], laidByText := true, laidKinds := [.sentinel, .sentinel, .sentinel, .sentinel, .sentinel, .sentinel], laidTests := true, laidLooks := .later }
def FnChainUptoCardSaid : Prop := Claim7.holds Tryd.pinned (.plain (OpenSpec.upto fnChainSpec)) fnChainUptoCard

/-- THE SECOND FORM's CARD OF 'laws.FnCommonScope'. -/
def fnCommonScopeUptoCard : Claim7 := { stood := { row := fnCommonScopeUptoRow, standIns := [], harness := (true, "9c5f2bd39e30701a572bc7a1a3364fae37262c2a6fd469ed0332fd710d7a8d23"), looks := false }, kinds := [], alts := [], laidByText := true, laidKinds := [.sentinel, .sentinel, .sentinel, .sentinel, .sentinel, .sentinel], laidTests := true, laidLooks := .later }
def FnCommonScopeUptoCardSaid : Prop := Claim7.holds Tryd.pinned (.plain (OpenSpec.upto fnCommonScopeSpec)) fnCommonScopeUptoCard

/-- THE SECOND FORM's CARD OF 'laws.FnImported'. -/
def fnImportedUptoCard : Claim7 := { stood := { row := fnImportedUptoRow, standIns := [], harness := (true, "9c5f2bd39e30701a572bc7a1a3364fae37262c2a6fd469ed0332fd710d7a8d23"), looks := false }, kinds := [], alts := [], laidByText := true, laidKinds := [.sentinel, .sentinel, .sentinel, .sentinel, .sentinel, .sentinel, .sentinel], laidTests := true, laidLooks := .later }
def FnImportedUptoCardSaid : Prop := Claim7.holds Tryd.pinned (.plain (OpenSpec.upto fnImportedSpec)) fnImportedUptoCard
end Rows
end Go.Proofs.YtmfglfhloahmlaaDoor
