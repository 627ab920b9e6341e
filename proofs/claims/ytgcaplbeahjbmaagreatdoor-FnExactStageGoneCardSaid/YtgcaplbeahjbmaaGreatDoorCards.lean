/-
  DERIVED. GIVEN WITH THE SEED: THE CARDS: each row of YtgcaplbeahjbmaaGreatDoorRows.lean that lists a variable, with what it lists TIED to the program's text (the seventh form; the later family's looks); each row that meets fmt, with fmt's text TOLD by the authors' own Lean function (tested against real Go, not proved from fmt's source: count such statements apart). THE CARD IS WHAT COUNTS. Prove the row's statement (the work); the ties are given (YtgcaplbeahjbmaaGreatDoorTie.lean); close each card by the builder's one call (the guide's Derived/Test/ToyasCard.lean, 'card_holds'). Laid BY PROGRAM, IN A SANDBOX (cutbox-door.mjs). By AI agents, Wed Nov 11 2026. No macro, syntax, notation, axiom, sorry.
-/
import Derived.Test.YtgcaplbeahjbmaaGreatDoorRows
import GoSem.ClaimSeven
namespace Go.Proofs.YtgcaplbeahjbmaaGreatDoor
namespace Rows

/-- THE TIED CARD OF 'laws.FnExactStageFile'. -/
def fnExactStageFileCard : Claim7 := { stood := { row := fnExactStageFileRow, standIns := [], harness := (true, "253759b30ccf990bd01c0382af0e957ec52baa95c01ee551cb53baca5f26677c"), looks := false }, kinds := [], alts := [], laidByText := true, laidKinds := [.data, .pinned], laidTests := true, laidLooks := .later }
def FnExactStageFileCardSaid : Prop := Claim7.holds Tryz.pinned (.plain (OpenSpec.ofChange fnExactStageFileSpec)) fnExactStageFileCard

/-- THE TIED CARD OF 'laws.FnExactStageGone'. -/
def fnExactStageGoneCard : Claim7 := { stood := { row := fnExactStageGoneRow, standIns := [], harness := (true, "253759b30ccf990bd01c0382af0e957ec52baa95c01ee551cb53baca5f26677c"), looks := false }, kinds := [], alts := [], laidByText := true, laidKinds := [.data, .pinned], laidTests := true, laidLooks := .later }
def FnExactStageGoneCardSaid : Prop := Claim7.holds Tryz.pinned (.plain (OpenSpec.ofChange fnExactStageGoneSpec)) fnExactStageGoneCard

/-- THE SECOND FORM's CARD OF 'laws.FnExactStageFile'. -/
def fnExactStageFileUptoCard : Claim7 := { stood := { row := fnExactStageFileUptoRow, standIns := [], harness := (true, "253759b30ccf990bd01c0382af0e957ec52baa95c01ee551cb53baca5f26677c"), looks := false }, kinds := [], alts := [], laidByText := true, laidKinds := [.data, .pinned], laidTests := true, laidLooks := .later }
def FnExactStageFileUptoCardSaid : Prop := Claim7.holds Tryz.pinned (.plain (OpenSpec.upto fnExactStageFileSpec)) fnExactStageFileUptoCard

/-- THE SECOND FORM's CARD OF 'laws.FnExactStageGone'. -/
def fnExactStageGoneUptoCard : Claim7 := { stood := { row := fnExactStageGoneUptoRow, standIns := [], harness := (true, "253759b30ccf990bd01c0382af0e957ec52baa95c01ee551cb53baca5f26677c"), looks := false }, kinds := [], alts := [], laidByText := true, laidKinds := [.data, .pinned], laidTests := true, laidLooks := .later }
def FnExactStageGoneUptoCardSaid : Prop := Claim7.holds Tryz.pinned (.plain (OpenSpec.upto fnExactStageGoneSpec)) fnExactStageGoneUptoCard
end Rows
end Go.Proofs.YtgcaplbeahjbmaaGreatDoor
