/-
  DERIVED. GIVEN WITH THE SEED: THE CARDS: each row of YtcfhfhpdnjaokaaGreatDoorRows.lean that lists a variable, with what it lists TIED to the program's text (the seventh form; the later family's looks); each row that meets fmt, with fmt's text TOLD by the authors' own Lean function (tested against real Go, not proved from fmt's source: count such statements apart). THE CARD IS WHAT COUNTS. Prove the row's statement (the work); the ties are given (YtcfhfhpdnjaokaaGreatDoorTie.lean); close each card by the builder's one call (the guide's Derived/Test/ToyasCard.lean, 'card_holds'). Laid BY PROGRAM, IN A SANDBOX (cutbox-door.mjs). By AI agents, Wed Nov 11 2026. No macro, syntax, notation, axiom, sorry.
-/
import Derived.Test.YtcfhfhpdnjaokaaGreatDoorRows
import GoSem.ClaimSeven
namespace Go.Proofs.YtcfhfhpdnjaokaaGreatDoor
namespace Rows

/-- THE TIED CARD OF 'laws.FnBuilt'. -/
def fnBuiltCard : Claim7 := { stood := { row := fnBuiltRow, standIns := [], harness := (true, "040ab85fa78161d0291e134a8357715f7b39d4f4692cc40da2ff59b3ba5910ee"), looks := true }, kinds := [], alts := [], laidByText := true, laidKinds := [.data, .data, .data], laidTests := true, laidLooks := .later }
def FnBuiltCardSaid : Prop := Claim7.holds Tryz.pinned (.plain (OpenSpec.ofChange fnBuiltSpec)) fnBuiltCard

/-- THE TIED CARD OF 'laws.FnMadeOne'. -/
def fnMadeOneCard : Claim7 := { stood := { row := fnMadeOneRow, standIns := [], harness := (true, "040ab85fa78161d0291e134a8357715f7b39d4f4692cc40da2ff59b3ba5910ee"), looks := true }, kinds := [], alts := [], laidByText := true, laidKinds := [.data, .data, .data], laidTests := true, laidLooks := .later }
def FnMadeOneCardSaid : Prop := Claim7.holds Tryz.pinned (.plain (OpenSpec.ofChange fnMadeOneSpec)) fnMadeOneCard

/-- THE TIED CARD OF 'laws.FnAgain'. -/
def fnAgainCard : Claim7 := { stood := { row := fnAgainRow, standIns := [], harness := (true, "040ab85fa78161d0291e134a8357715f7b39d4f4692cc40da2ff59b3ba5910ee"), looks := true }, kinds := [], alts := [], laidByText := true, laidKinds := [.data, .data, .data], laidTests := true, laidLooks := .later }
def FnAgainCardSaid : Prop := Claim7.holds Tryz.pinned (.plain (OpenSpec.ofChange fnAgainSpec)) fnAgainCard

/-- THE TIED CARD OF 'laws.FnStale'. -/
def fnStaleCard : Claim7 := { stood := { row := fnStaleRow, standIns := [], harness := (true, "040ab85fa78161d0291e134a8357715f7b39d4f4692cc40da2ff59b3ba5910ee"), looks := true }, kinds := [], alts := [], laidByText := true, laidKinds := [.data, .data, .data], laidTests := true, laidLooks := .later }
def FnStaleCardSaid : Prop := Claim7.holds Tryz.pinned (.plain (OpenSpec.ofChange fnStaleSpec)) fnStaleCard

/-- THE TIED CARD OF 'laws.FnExactBuildAll'. -/
def fnExactBuildAllCard : Claim7 := { stood := { row := fnExactBuildAllRow, standIns := [], harness := (true, "040ab85fa78161d0291e134a8357715f7b39d4f4692cc40da2ff59b3ba5910ee"), looks := true }, kinds := [], alts := [], laidByText := true, laidKinds := [.data, .data, .data], laidTests := true, laidLooks := .later }
def FnExactBuildAllCardSaid : Prop := Claim7.holds Tryz.pinned (.plain (OpenSpec.ofChange fnExactBuildAllSpec)) fnExactBuildAllCard

/-- THE TIED CARD OF 'laws.FnExactMakeOne'. -/
def fnExactMakeOneCard : Claim7 := { stood := { row := fnExactMakeOneRow, standIns := [], harness := (true, "040ab85fa78161d0291e134a8357715f7b39d4f4692cc40da2ff59b3ba5910ee"), looks := true }, kinds := [], alts := [], laidByText := true, laidKinds := [.data, .data, .data], laidTests := true, laidLooks := .later }
def FnExactMakeOneCardSaid : Prop := Claim7.holds Tryz.pinned (.plain (OpenSpec.ofChange fnExactMakeOneSpec)) fnExactMakeOneCard

/-- THE TIED CARD OF 'laws.FnExactAgainAll'. -/
def fnExactAgainAllCard : Claim7 := { stood := { row := fnExactAgainAllRow, standIns := [], harness := (true, "040ab85fa78161d0291e134a8357715f7b39d4f4692cc40da2ff59b3ba5910ee"), looks := true }, kinds := [], alts := [], laidByText := true, laidKinds := [.data, .data, .data], laidTests := true, laidLooks := .later }
def FnExactAgainAllCardSaid : Prop := Claim7.holds Tryz.pinned (.plain (OpenSpec.ofChange fnExactAgainAllSpec)) fnExactAgainAllCard

/-- THE TIED CARD OF 'laws.FnExactAgainCut'. -/
def fnExactAgainCutCard : Claim7 := { stood := { row := fnExactAgainCutRow, standIns := [], harness := (true, "040ab85fa78161d0291e134a8357715f7b39d4f4692cc40da2ff59b3ba5910ee"), looks := true }, kinds := [], alts := [], laidByText := true, laidKinds := [.data, .data, .data], laidTests := true, laidLooks := .later }
def FnExactAgainCutCardSaid : Prop := Claim7.holds Tryz.pinned (.plain (OpenSpec.ofChange fnExactAgainCutSpec)) fnExactAgainCutCard

/-- THE TIED CARD OF 'laws.FnExactStaleIn'. -/
def fnExactStaleInCard : Claim7 := { stood := { row := fnExactStaleInRow, standIns := [], harness := (true, "040ab85fa78161d0291e134a8357715f7b39d4f4692cc40da2ff59b3ba5910ee"), looks := true }, kinds := [], alts := [], laidByText := true, laidKinds := [.data, .data, .data], laidTests := true, laidLooks := .later }
def FnExactStaleInCardSaid : Prop := Claim7.holds Tryz.pinned (.plain (OpenSpec.ofChange fnExactStaleInSpec)) fnExactStaleInCard

/-- THE TIED CARD OF 'laws.FnExactIsBuilt'. -/
def fnExactIsBuiltCard : Claim7 := { stood := { row := fnExactIsBuiltRow, standIns := [], harness := (true, "040ab85fa78161d0291e134a8357715f7b39d4f4692cc40da2ff59b3ba5910ee"), looks := true }, kinds := [], alts := [], laidByText := true, laidKinds := [.data, .data, .data], laidTests := true, laidLooks := .later }
def FnExactIsBuiltCardSaid : Prop := Claim7.holds Tryz.pinned (.plain (OpenSpec.ofChange fnExactIsBuiltSpec)) fnExactIsBuiltCard

/-- THE TIED CARD OF 'laws.FnExactFixFirst'. -/
def fnExactFixFirstCard : Claim7 := { stood := { row := fnExactFixFirstRow, standIns := [], harness := (true, "040ab85fa78161d0291e134a8357715f7b39d4f4692cc40da2ff59b3ba5910ee"), looks := true }, kinds := [], alts := [], laidByText := true, laidKinds := [.data, .data, .data], laidTests := true, laidLooks := .later }
def FnExactFixFirstCardSaid : Prop := Claim7.holds Tryz.pinned (.plain (OpenSpec.ofChange fnExactFixFirstSpec)) fnExactFixFirstCard

/-- THE SECOND FORM's CARD OF 'laws.FnBuilt'. -/
def fnBuiltUptoCard : Claim7 := { stood := { row := fnBuiltUptoRow, standIns := [], harness := (true, "040ab85fa78161d0291e134a8357715f7b39d4f4692cc40da2ff59b3ba5910ee"), looks := true }, kinds := [], alts := [], laidByText := true, laidKinds := [.data, .data, .data], laidTests := true, laidLooks := .later }
def FnBuiltUptoCardSaid : Prop := Claim7.holds Tryz.pinned (.plain (OpenSpec.upto fnBuiltSpec)) fnBuiltUptoCard

/-- THE SECOND FORM's CARD OF 'laws.FnMadeOne'. -/
def fnMadeOneUptoCard : Claim7 := { stood := { row := fnMadeOneUptoRow, standIns := [], harness := (true, "040ab85fa78161d0291e134a8357715f7b39d4f4692cc40da2ff59b3ba5910ee"), looks := true }, kinds := [], alts := [], laidByText := true, laidKinds := [.data, .data, .data], laidTests := true, laidLooks := .later }
def FnMadeOneUptoCardSaid : Prop := Claim7.holds Tryz.pinned (.plain (OpenSpec.upto fnMadeOneSpec)) fnMadeOneUptoCard

/-- THE SECOND FORM's CARD OF 'laws.FnAgain'. -/
def fnAgainUptoCard : Claim7 := { stood := { row := fnAgainUptoRow, standIns := [], harness := (true, "040ab85fa78161d0291e134a8357715f7b39d4f4692cc40da2ff59b3ba5910ee"), looks := true }, kinds := [], alts := [], laidByText := true, laidKinds := [.data, .data, .data], laidTests := true, laidLooks := .later }
def FnAgainUptoCardSaid : Prop := Claim7.holds Tryz.pinned (.plain (OpenSpec.upto fnAgainSpec)) fnAgainUptoCard

/-- THE SECOND FORM's CARD OF 'laws.FnStale'. -/
def fnStaleUptoCard : Claim7 := { stood := { row := fnStaleUptoRow, standIns := [], harness := (true, "040ab85fa78161d0291e134a8357715f7b39d4f4692cc40da2ff59b3ba5910ee"), looks := true }, kinds := [], alts := [], laidByText := true, laidKinds := [.data, .data, .data], laidTests := true, laidLooks := .later }
def FnStaleUptoCardSaid : Prop := Claim7.holds Tryz.pinned (.plain (OpenSpec.upto fnStaleSpec)) fnStaleUptoCard

/-- THE SECOND FORM's CARD OF 'laws.FnExactBuildAll'. -/
def fnExactBuildAllUptoCard : Claim7 := { stood := { row := fnExactBuildAllUptoRow, standIns := [], harness := (true, "040ab85fa78161d0291e134a8357715f7b39d4f4692cc40da2ff59b3ba5910ee"), looks := true }, kinds := [], alts := [], laidByText := true, laidKinds := [.data, .data, .data], laidTests := true, laidLooks := .later }
def FnExactBuildAllUptoCardSaid : Prop := Claim7.holds Tryz.pinned (.plain (OpenSpec.upto fnExactBuildAllSpec)) fnExactBuildAllUptoCard

/-- THE SECOND FORM's CARD OF 'laws.FnExactMakeOne'. -/
def fnExactMakeOneUptoCard : Claim7 := { stood := { row := fnExactMakeOneUptoRow, standIns := [], harness := (true, "040ab85fa78161d0291e134a8357715f7b39d4f4692cc40da2ff59b3ba5910ee"), looks := true }, kinds := [], alts := [], laidByText := true, laidKinds := [.data, .data, .data], laidTests := true, laidLooks := .later }
def FnExactMakeOneUptoCardSaid : Prop := Claim7.holds Tryz.pinned (.plain (OpenSpec.upto fnExactMakeOneSpec)) fnExactMakeOneUptoCard

/-- THE SECOND FORM's CARD OF 'laws.FnExactAgainAll'. -/
def fnExactAgainAllUptoCard : Claim7 := { stood := { row := fnExactAgainAllUptoRow, standIns := [], harness := (true, "040ab85fa78161d0291e134a8357715f7b39d4f4692cc40da2ff59b3ba5910ee"), looks := true }, kinds := [], alts := [], laidByText := true, laidKinds := [.data, .data, .data], laidTests := true, laidLooks := .later }
def FnExactAgainAllUptoCardSaid : Prop := Claim7.holds Tryz.pinned (.plain (OpenSpec.upto fnExactAgainAllSpec)) fnExactAgainAllUptoCard

/-- THE SECOND FORM's CARD OF 'laws.FnExactAgainCut'. -/
def fnExactAgainCutUptoCard : Claim7 := { stood := { row := fnExactAgainCutUptoRow, standIns := [], harness := (true, "040ab85fa78161d0291e134a8357715f7b39d4f4692cc40da2ff59b3ba5910ee"), looks := true }, kinds := [], alts := [], laidByText := true, laidKinds := [.data, .data, .data], laidTests := true, laidLooks := .later }
def FnExactAgainCutUptoCardSaid : Prop := Claim7.holds Tryz.pinned (.plain (OpenSpec.upto fnExactAgainCutSpec)) fnExactAgainCutUptoCard

/-- THE SECOND FORM's CARD OF 'laws.FnExactStaleIn'. -/
def fnExactStaleInUptoCard : Claim7 := { stood := { row := fnExactStaleInUptoRow, standIns := [], harness := (true, "040ab85fa78161d0291e134a8357715f7b39d4f4692cc40da2ff59b3ba5910ee"), looks := true }, kinds := [], alts := [], laidByText := true, laidKinds := [.data, .data, .data], laidTests := true, laidLooks := .later }
def FnExactStaleInUptoCardSaid : Prop := Claim7.holds Tryz.pinned (.plain (OpenSpec.upto fnExactStaleInSpec)) fnExactStaleInUptoCard

/-- THE SECOND FORM's CARD OF 'laws.FnExactIsBuilt'. -/
def fnExactIsBuiltUptoCard : Claim7 := { stood := { row := fnExactIsBuiltUptoRow, standIns := [], harness := (true, "040ab85fa78161d0291e134a8357715f7b39d4f4692cc40da2ff59b3ba5910ee"), looks := true }, kinds := [], alts := [], laidByText := true, laidKinds := [.data, .data, .data], laidTests := true, laidLooks := .later }
def FnExactIsBuiltUptoCardSaid : Prop := Claim7.holds Tryz.pinned (.plain (OpenSpec.upto fnExactIsBuiltSpec)) fnExactIsBuiltUptoCard

/-- THE SECOND FORM's CARD OF 'laws.FnExactFixFirst'. -/
def fnExactFixFirstUptoCard : Claim7 := { stood := { row := fnExactFixFirstUptoRow, standIns := [], harness := (true, "040ab85fa78161d0291e134a8357715f7b39d4f4692cc40da2ff59b3ba5910ee"), looks := true }, kinds := [], alts := [], laidByText := true, laidKinds := [.data, .data, .data], laidTests := true, laidLooks := .later }
def FnExactFixFirstUptoCardSaid : Prop := Claim7.holds Tryz.pinned (.plain (OpenSpec.upto fnExactFixFirstSpec)) fnExactFixFirstUptoCard
end Rows
end Go.Proofs.YtcfhfhpdnjaokaaGreatDoor
