/-
  DERIVED. GIVEN WITH THE SEED: THE CARDS: each row of YtgolhfmmlanmlaaGreatDoorRows.lean that lists a variable, with what it lists TIED to the program's text (the seventh form; the later family's looks); each row that meets fmt, with fmt's text TOLD by the authors' own Lean function (tested against real Go, not proved from fmt's source: count such statements apart). THE CARD IS WHAT COUNTS. Prove the row's statement (the work); the ties are given (YtgolhfmmlanmlaaGreatDoorTie.lean); close each card by the builder's one call (the guide's Derived/Test/ToyasCard.lean, 'card_holds'). Laid BY PROGRAM, IN A SANDBOX (cutbox-door.mjs). By AI agents, Wed Nov 11 2026. No macro, syntax, notation, axiom, sorry.
-/
import Derived.Test.YtgolhfmmlanmlaaGreatDoorRows
import GoSem.ClaimSeven
namespace Go.Proofs.YtgolhfmmlanmlaaGreatDoor
namespace Rows

/-- THE TIED CARD OF 'laws.FnExactBuildTraced'. -/
def fnExactBuildTracedCard : Claim7 := { stood := { row := fnExactBuildTracedRow, standIns := [], harness := (true, "5da028fb428b71da28067415a0b981df2cbc61a85d3b057ae4ab082335e1b77a"), looks := true }, kinds := [], alts := [], laidByText := true, laidKinds := [.data, .data, .data], laidTests := true, laidLooks := .later }
def FnExactBuildTracedCardSaid : Prop := Claim7.holds Tryz.pinned (.plain (OpenSpec.ofChange fnExactBuildTracedSpec)) fnExactBuildTracedCard

/-- THE TIED CARD OF 'laws.FnExactStaleIn'. -/
def fnExactStaleInCard : Claim7 := { stood := { row := fnExactStaleInRow, standIns := [], harness := (true, "5da028fb428b71da28067415a0b981df2cbc61a85d3b057ae4ab082335e1b77a"), looks := true }, kinds := [], alts := [], laidByText := true, laidKinds := [.data, .data, .data], laidTests := true, laidLooks := .later }
def FnExactStaleInCardSaid : Prop := Claim7.holds Tryz.pinned (.plain (OpenSpec.ofChange fnExactStaleInSpec)) fnExactStaleInCard

/-- THE TIED CARD OF 'laws.FnExactIsBuilt'. -/
def fnExactIsBuiltCard : Claim7 := { stood := { row := fnExactIsBuiltRow, standIns := [], harness := (true, "5da028fb428b71da28067415a0b981df2cbc61a85d3b057ae4ab082335e1b77a"), looks := true }, kinds := [], alts := [], laidByText := true, laidKinds := [.data, .data, .data], laidTests := true, laidLooks := .later }
def FnExactIsBuiltCardSaid : Prop := Claim7.holds Tryz.pinned (.plain (OpenSpec.ofChange fnExactIsBuiltSpec)) fnExactIsBuiltCard

/-- THE SECOND FORM's CARD OF 'laws.FnExactBuildTraced'. -/
def fnExactBuildTracedUptoCard : Claim7 := { stood := { row := fnExactBuildTracedUptoRow, standIns := [], harness := (true, "5da028fb428b71da28067415a0b981df2cbc61a85d3b057ae4ab082335e1b77a"), looks := true }, kinds := [], alts := [], laidByText := true, laidKinds := [.data, .data, .data], laidTests := true, laidLooks := .later }
def FnExactBuildTracedUptoCardSaid : Prop := Claim7.holds Tryz.pinned (.plain (OpenSpec.upto fnExactBuildTracedSpec)) fnExactBuildTracedUptoCard

/-- THE SECOND FORM's CARD OF 'laws.FnExactStaleIn'. -/
def fnExactStaleInUptoCard : Claim7 := { stood := { row := fnExactStaleInUptoRow, standIns := [], harness := (true, "5da028fb428b71da28067415a0b981df2cbc61a85d3b057ae4ab082335e1b77a"), looks := true }, kinds := [], alts := [], laidByText := true, laidKinds := [.data, .data, .data], laidTests := true, laidLooks := .later }
def FnExactStaleInUptoCardSaid : Prop := Claim7.holds Tryz.pinned (.plain (OpenSpec.upto fnExactStaleInSpec)) fnExactStaleInUptoCard

/-- THE SECOND FORM's CARD OF 'laws.FnExactIsBuilt'. -/
def fnExactIsBuiltUptoCard : Claim7 := { stood := { row := fnExactIsBuiltUptoRow, standIns := [], harness := (true, "5da028fb428b71da28067415a0b981df2cbc61a85d3b057ae4ab082335e1b77a"), looks := true }, kinds := [], alts := [], laidByText := true, laidKinds := [.data, .data, .data], laidTests := true, laidLooks := .later }
def FnExactIsBuiltUptoCardSaid : Prop := Claim7.holds Tryz.pinned (.plain (OpenSpec.upto fnExactIsBuiltSpec)) fnExactIsBuiltUptoCard
end Rows
end Go.Proofs.YtgolhfmmlanmlaaGreatDoor
