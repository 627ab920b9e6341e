/-
  DERIVED. GIVEN WITH THE SEED: THE CARDS: each row of YtoahfhidekmodaaGreatDoorRows.lean that lists a variable, with what it lists TIED to the program's text (the seventh form; the later family's looks); each row that meets fmt, with fmt's text TOLD by the authors' own Lean function (tested against real Go, not proved from fmt's source: count such statements apart). THE CARD IS WHAT COUNTS. Prove the row's statement (the work); the ties are given (YtoahfhidekmodaaGreatDoorTie.lean); close each card by the builder's one call (the guide's Derived/Test/ToyasCard.lean, 'card_holds'). Laid BY PROGRAM, IN A SANDBOX (cutbox-door.mjs). By AI agents, Wed Nov 11 2026. No macro, syntax, notation, axiom, sorry.
-/
import Derived.Test.YtoahfhidekmodaaGreatDoorRows
import GoSem.ClaimSeven
namespace Go.Proofs.YtoahfhidekmodaaGreatDoor
namespace Rows

/-- THE TIED CARD OF 'laws.FnStaged'. -/
def fnStagedCard : Claim7 := { stood := { row := fnStagedRow, standIns := [], harness := (true, "d063bb341378aeb3a0f7085ee4de0ba5a0b211c4573ae2d2f472c64f2d5dabdf"), looks := false }, kinds := [], alts := [], laidByText := true, laidKinds := [.data, .pinned], laidTests := true, laidLooks := .later }
def FnStagedCardSaid : Prop := Claim7.holds Tryz.pinned (.plain (OpenSpec.ofChange fnStagedSpec)) fnStagedCard

/-- THE TIED CARD OF 'laws.FnCommitted'. -/
def fnCommittedCard : Claim7 := { stood := { row := fnCommittedRow, standIns := [], harness := (true, "d063bb341378aeb3a0f7085ee4de0ba5a0b211c4573ae2d2f472c64f2d5dabdf"), looks := false }, kinds := [], alts := [], laidByText := true, laidKinds := [.data, .pinned], laidTests := true, laidLooks := .later }
def FnCommittedCardSaid : Prop := Claim7.holds Tryz.pinned (.plain (OpenSpec.ofChange fnCommittedSpec)) fnCommittedCard

/-- THE TIED CARD OF 'laws.FnExactStageFile'. -/
def fnExactStageFileCard : Claim7 := { stood := { row := fnExactStageFileRow, standIns := [], harness := (true, "d063bb341378aeb3a0f7085ee4de0ba5a0b211c4573ae2d2f472c64f2d5dabdf"), looks := false }, kinds := [], alts := [], laidByText := true, laidKinds := [.data, .pinned], laidTests := true, laidLooks := .later }
def FnExactStageFileCardSaid : Prop := Claim7.holds Tryz.pinned (.plain (OpenSpec.ofChange fnExactStageFileSpec)) fnExactStageFileCard

/-- THE TIED CARD OF 'laws.FnExactStageGone'. -/
def fnExactStageGoneCard : Claim7 := { stood := { row := fnExactStageGoneRow, standIns := [], harness := (true, "d063bb341378aeb3a0f7085ee4de0ba5a0b211c4573ae2d2f472c64f2d5dabdf"), looks := false }, kinds := [], alts := [], laidByText := true, laidKinds := [.data, .pinned], laidTests := true, laidLooks := .later }
def FnExactStageGoneCardSaid : Prop := Claim7.holds Tryz.pinned (.plain (OpenSpec.ofChange fnExactStageGoneSpec)) fnExactStageGoneCard

/-- THE TIED CARD OF 'laws.FnExactCommit'. -/
def fnExactCommitCard : Claim7 := { stood := { row := fnExactCommitRow, standIns := [], harness := (true, "d063bb341378aeb3a0f7085ee4de0ba5a0b211c4573ae2d2f472c64f2d5dabdf"), looks := false }, kinds := [], alts := [], laidByText := true, laidKinds := [.data, .pinned], laidTests := true, laidLooks := .later }
def FnExactCommitCardSaid : Prop := Claim7.holds Tryz.pinned (.plain (OpenSpec.ofChange fnExactCommitSpec)) fnExactCommitCard

/-- THE TIED CARD OF 'laws.FnExactDiscard'. -/
def fnExactDiscardCard : Claim7 := { stood := { row := fnExactDiscardRow, standIns := [], harness := (true, "d063bb341378aeb3a0f7085ee4de0ba5a0b211c4573ae2d2f472c64f2d5dabdf"), looks := false }, kinds := [], alts := [], laidByText := true, laidKinds := [.data, .pinned], laidTests := true, laidLooks := .later }
def FnExactDiscardCardSaid : Prop := Claim7.holds Tryz.pinned (.plain (OpenSpec.ofChange fnExactDiscardSpec)) fnExactDiscardCard

/-- THE SECOND FORM's CARD OF 'laws.FnStaged'. -/
def fnStagedUptoCard : Claim7 := { stood := { row := fnStagedUptoRow, standIns := [], harness := (true, "d063bb341378aeb3a0f7085ee4de0ba5a0b211c4573ae2d2f472c64f2d5dabdf"), looks := false }, kinds := [], alts := [], laidByText := true, laidKinds := [.data, .pinned], laidTests := true, laidLooks := .later }
def FnStagedUptoCardSaid : Prop := Claim7.holds Tryz.pinned (.plain (OpenSpec.upto fnStagedSpec)) fnStagedUptoCard

/-- THE SECOND FORM's CARD OF 'laws.FnCommitted'. -/
def fnCommittedUptoCard : Claim7 := { stood := { row := fnCommittedUptoRow, standIns := [], harness := (true, "d063bb341378aeb3a0f7085ee4de0ba5a0b211c4573ae2d2f472c64f2d5dabdf"), looks := false }, kinds := [], alts := [], laidByText := true, laidKinds := [.data, .pinned], laidTests := true, laidLooks := .later }
def FnCommittedUptoCardSaid : Prop := Claim7.holds Tryz.pinned (.plain (OpenSpec.upto fnCommittedSpec)) fnCommittedUptoCard

/-- THE SECOND FORM's CARD OF 'laws.FnExactStageFile'. -/
def fnExactStageFileUptoCard : Claim7 := { stood := { row := fnExactStageFileUptoRow, standIns := [], harness := (true, "d063bb341378aeb3a0f7085ee4de0ba5a0b211c4573ae2d2f472c64f2d5dabdf"), looks := false }, kinds := [], alts := [], laidByText := true, laidKinds := [.data, .pinned], laidTests := true, laidLooks := .later }
def FnExactStageFileUptoCardSaid : Prop := Claim7.holds Tryz.pinned (.plain (OpenSpec.upto fnExactStageFileSpec)) fnExactStageFileUptoCard

/-- THE SECOND FORM's CARD OF 'laws.FnExactStageGone'. -/
def fnExactStageGoneUptoCard : Claim7 := { stood := { row := fnExactStageGoneUptoRow, standIns := [], harness := (true, "d063bb341378aeb3a0f7085ee4de0ba5a0b211c4573ae2d2f472c64f2d5dabdf"), looks := false }, kinds := [], alts := [], laidByText := true, laidKinds := [.data, .pinned], laidTests := true, laidLooks := .later }
def FnExactStageGoneUptoCardSaid : Prop := Claim7.holds Tryz.pinned (.plain (OpenSpec.upto fnExactStageGoneSpec)) fnExactStageGoneUptoCard

/-- THE SECOND FORM's CARD OF 'laws.FnExactCommit'. -/
def fnExactCommitUptoCard : Claim7 := { stood := { row := fnExactCommitUptoRow, standIns := [], harness := (true, "d063bb341378aeb3a0f7085ee4de0ba5a0b211c4573ae2d2f472c64f2d5dabdf"), looks := false }, kinds := [], alts := [], laidByText := true, laidKinds := [.data, .pinned], laidTests := true, laidLooks := .later }
def FnExactCommitUptoCardSaid : Prop := Claim7.holds Tryz.pinned (.plain (OpenSpec.upto fnExactCommitSpec)) fnExactCommitUptoCard

/-- THE SECOND FORM's CARD OF 'laws.FnExactDiscard'. -/
def fnExactDiscardUptoCard : Claim7 := { stood := { row := fnExactDiscardUptoRow, standIns := [], harness := (true, "d063bb341378aeb3a0f7085ee4de0ba5a0b211c4573ae2d2f472c64f2d5dabdf"), looks := false }, kinds := [], alts := [], laidByText := true, laidKinds := [.data, .pinned], laidTests := true, laidLooks := .later }
def FnExactDiscardUptoCardSaid : Prop := Claim7.holds Tryz.pinned (.plain (OpenSpec.upto fnExactDiscardSpec)) fnExactDiscardUptoCard
end Rows
end Go.Proofs.YtoahfhidekmodaaGreatDoor
