/-
  DERIVED. GIVEN WITH THE SEED: THE CARDS: each row of YtngldlconipnnaaGreatDoorRows.lean that lists a variable, with what it lists TIED to the program's text (the seventh form; the later family's looks); each row that meets fmt, with fmt's text TOLD by the authors' own Lean function (tested against real Go, not proved from fmt's source: count such statements apart). THE CARD IS WHAT COUNTS. Prove the row's statement (the work); the ties are given (YtngldlconipnnaaGreatDoorTie.lean); close each card by the builder's one call (the guide's Derived/Test/ToyasCard.lean, 'card_holds'). Laid BY PROGRAM, IN A SANDBOX (cutbox-door.mjs). By AI agents, Wed Nov 11 2026. No macro, syntax, notation, axiom, sorry.
-/
import Derived.Test.YtngldlconipnnaaGreatDoorRows
import GoSem.ClaimSeven
namespace Go.Proofs.YtngldlconipnnaaGreatDoor
namespace Rows

/-- THE TIED CARD OF 'laws.FnTraced'. -/
def fnTracedCard : Claim7 := { stood := { row := fnTracedRow, standIns := [], harness := (true, "29813f37dee6cefa839c3e08ddf49c35982cde532b85764b3da77e459c138eda"), looks := true }, kinds := [], alts := [], laidByText := true, laidKinds := [.data, .data, .data], laidTests := true, laidLooks := .later }
def FnTracedCardSaid : Prop := Claim7.holds Tryz.pinned (.plain (OpenSpec.ofChange fnTracedSpec)) fnTracedCard

/-- THE TIED CARD OF 'laws.FnExactAgainAll'. -/
def fnExactAgainAllCard : Claim7 := { stood := { row := fnExactAgainAllRow, standIns := [], harness := (true, "29813f37dee6cefa839c3e08ddf49c35982cde532b85764b3da77e459c138eda"), looks := true }, kinds := [], alts := [], laidByText := true, laidKinds := [.data, .data, .data], laidTests := true, laidLooks := .later }
def FnExactAgainAllCardSaid : Prop := Claim7.holds Tryz.pinned (.plain (OpenSpec.ofChange fnExactAgainAllSpec)) fnExactAgainAllCard

/-- THE TIED CARD OF 'laws.FnExactAgainCut'. -/
def fnExactAgainCutCard : Claim7 := { stood := { row := fnExactAgainCutRow, standIns := [], harness := (true, "29813f37dee6cefa839c3e08ddf49c35982cde532b85764b3da77e459c138eda"), looks := true }, kinds := [], alts := [], laidByText := true, laidKinds := [.data, .data, .data], laidTests := true, laidLooks := .later }
def FnExactAgainCutCardSaid : Prop := Claim7.holds Tryz.pinned (.plain (OpenSpec.ofChange fnExactAgainCutSpec)) fnExactAgainCutCard

/-- THE TIED CARD OF 'laws.FnExactFixFirst'. -/
def fnExactFixFirstCard : Claim7 := { stood := { row := fnExactFixFirstRow, standIns := [], harness := (true, "29813f37dee6cefa839c3e08ddf49c35982cde532b85764b3da77e459c138eda"), looks := true }, kinds := [], alts := [], laidByText := true, laidKinds := [.data, .data, .data], laidTests := true, laidLooks := .later }
def FnExactFixFirstCardSaid : Prop := Claim7.holds Tryz.pinned (.plain (OpenSpec.ofChange fnExactFixFirstSpec)) fnExactFixFirstCard

/-- THE TIED CARD OF 'laws.FnExactBuildTraced'. -/
def fnExactBuildTracedCard : Claim7 := { stood := { row := fnExactBuildTracedRow, standIns := [], harness := (true, "29813f37dee6cefa839c3e08ddf49c35982cde532b85764b3da77e459c138eda"), looks := true }, kinds := [], alts := [], laidByText := true, laidKinds := [.data, .data, .data], laidTests := true, laidLooks := .later }
def FnExactBuildTracedCardSaid : Prop := Claim7.holds Tryz.pinned (.plain (OpenSpec.ofChange fnExactBuildTracedSpec)) fnExactBuildTracedCard

/-- THE TIED CARD OF 'laws.FnExactTrueTraces'. -/
def fnExactTrueTracesCard : Claim7 := { stood := { row := fnExactTrueTracesRow, standIns := [], harness := (true, "29813f37dee6cefa839c3e08ddf49c35982cde532b85764b3da77e459c138eda"), looks := true }, kinds := [], alts := [], laidByText := true, laidKinds := [.data, .data, .data], laidTests := true, laidLooks := .later }
def FnExactTrueTracesCardSaid : Prop := Claim7.holds Tryz.pinned (.plain (OpenSpec.ofChange fnExactTrueTracesSpec)) fnExactTrueTracesCard

/-- THE SECOND FORM's CARD OF 'laws.FnTraced'. -/
def fnTracedUptoCard : Claim7 := { stood := { row := fnTracedUptoRow, standIns := [], harness := (true, "29813f37dee6cefa839c3e08ddf49c35982cde532b85764b3da77e459c138eda"), looks := true }, kinds := [], alts := [], laidByText := true, laidKinds := [.data, .data, .data], laidTests := true, laidLooks := .later }
def FnTracedUptoCardSaid : Prop := Claim7.holds Tryz.pinned (.plain (OpenSpec.upto fnTracedSpec)) fnTracedUptoCard

/-- THE SECOND FORM's CARD OF 'laws.FnExactAgainAll'. -/
def fnExactAgainAllUptoCard : Claim7 := { stood := { row := fnExactAgainAllUptoRow, standIns := [], harness := (true, "29813f37dee6cefa839c3e08ddf49c35982cde532b85764b3da77e459c138eda"), looks := true }, kinds := [], alts := [], laidByText := true, laidKinds := [.data, .data, .data], laidTests := true, laidLooks := .later }
def FnExactAgainAllUptoCardSaid : Prop := Claim7.holds Tryz.pinned (.plain (OpenSpec.upto fnExactAgainAllSpec)) fnExactAgainAllUptoCard

/-- THE SECOND FORM's CARD OF 'laws.FnExactAgainCut'. -/
def fnExactAgainCutUptoCard : Claim7 := { stood := { row := fnExactAgainCutUptoRow, standIns := [], harness := (true, "29813f37dee6cefa839c3e08ddf49c35982cde532b85764b3da77e459c138eda"), looks := true }, kinds := [], alts := [], laidByText := true, laidKinds := [.data, .data, .data], laidTests := true, laidLooks := .later }
def FnExactAgainCutUptoCardSaid : Prop := Claim7.holds Tryz.pinned (.plain (OpenSpec.upto fnExactAgainCutSpec)) fnExactAgainCutUptoCard

/-- THE SECOND FORM's CARD OF 'laws.FnExactFixFirst'. -/
def fnExactFixFirstUptoCard : Claim7 := { stood := { row := fnExactFixFirstUptoRow, standIns := [], harness := (true, "29813f37dee6cefa839c3e08ddf49c35982cde532b85764b3da77e459c138eda"), looks := true }, kinds := [], alts := [], laidByText := true, laidKinds := [.data, .data, .data], laidTests := true, laidLooks := .later }
def FnExactFixFirstUptoCardSaid : Prop := Claim7.holds Tryz.pinned (.plain (OpenSpec.upto fnExactFixFirstSpec)) fnExactFixFirstUptoCard

/-- THE SECOND FORM's CARD OF 'laws.FnExactBuildTraced'. -/
def fnExactBuildTracedUptoCard : Claim7 := { stood := { row := fnExactBuildTracedUptoRow, standIns := [], harness := (true, "29813f37dee6cefa839c3e08ddf49c35982cde532b85764b3da77e459c138eda"), looks := true }, kinds := [], alts := [], laidByText := true, laidKinds := [.data, .data, .data], laidTests := true, laidLooks := .later }
def FnExactBuildTracedUptoCardSaid : Prop := Claim7.holds Tryz.pinned (.plain (OpenSpec.upto fnExactBuildTracedSpec)) fnExactBuildTracedUptoCard

/-- THE SECOND FORM's CARD OF 'laws.FnExactTrueTraces'. -/
def fnExactTrueTracesUptoCard : Claim7 := { stood := { row := fnExactTrueTracesUptoRow, standIns := [], harness := (true, "29813f37dee6cefa839c3e08ddf49c35982cde532b85764b3da77e459c138eda"), looks := true }, kinds := [], alts := [], laidByText := true, laidKinds := [.data, .data, .data], laidTests := true, laidLooks := .later }
def FnExactTrueTracesUptoCardSaid : Prop := Claim7.holds Tryz.pinned (.plain (OpenSpec.upto fnExactTrueTracesSpec)) fnExactTrueTracesUptoCard
end Rows
end Go.Proofs.YtngldlconipnnaaGreatDoor
