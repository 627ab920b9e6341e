/-
  DERIVED. GIVEN WITH THE SEED: THE CARDS: each row of YtoahfhidekmodaaDoorRows.lean that lists a variable, with what it lists TIED to the program's text (the seventh form; the later family's looks); each row that meets fmt, with fmt's text TOLD by the authors' own Lean function (tested against real Go, not proved from fmt's source: count such statements apart). THE CARD IS WHAT COUNTS. Prove the row's statement (the work); the ties are given (YtoahfhidekmodaaDoorTie.lean); close each card by the builder's one call (the guide's Derived/Test/ToyasCard.lean, 'card_holds'). Laid BY PROGRAM, IN A SANDBOX (cutbox-door.mjs). By AI agents, Wed Nov 11 2026. No macro, syntax, notation, axiom, sorry.
-/
import Derived.Test.YtoahfhidekmodaaDoorRows
import GoSem.ClaimSeven
namespace Go.Proofs.YtoahfhidekmodaaDoor
namespace Rows

/-- THE TIED CARD OF 'laws.FnExactGoodFiles'. -/
def fnExactGoodFilesCard : Claim7 := { stood := { row := fnExactGoodFilesRow, standIns := [], harness := (true, "aca3fc921d620824fa7d2484a8b143fcdd5007fbc9a041d63dad03a10c51b877"), looks := false }, kinds := [], alts := [], laidByText := true, laidKinds := [.data, .pinned], laidTests := true, laidLooks := .later }
def FnExactGoodFilesCardSaid : Prop := Claim7.holds Tryd.pinned (.plain (OpenSpec.ofChange fnExactGoodFilesSpec)) fnExactGoodFilesCard

/-- THE TIED CARD OF 'laws.FnExactGoodStore'. -/
def fnExactGoodStoreCard : Claim7 := { stood := { row := fnExactGoodStoreRow, standIns := [], harness := (true, "aca3fc921d620824fa7d2484a8b143fcdd5007fbc9a041d63dad03a10c51b877"), looks := false }, kinds := [], alts := [], laidByText := true, laidKinds := [.data, .pinned], laidTests := true, laidLooks := .later }
def FnExactGoodStoreCardSaid : Prop := Claim7.holds Tryd.pinned (.plain (OpenSpec.ofChange fnExactGoodStoreSpec)) fnExactGoodStoreCard

/-- THE TIED CARD OF 'laws.FnExactReadFile'. -/
def fnExactReadFileCard : Claim7 := { stood := { row := fnExactReadFileRow, standIns := [], harness := (true, "aca3fc921d620824fa7d2484a8b143fcdd5007fbc9a041d63dad03a10c51b877"), looks := false }, kinds := [], alts := [], laidByText := true, laidKinds := [.data, .pinned], laidTests := true, laidLooks := .later }
def FnExactReadFileCardSaid : Prop := Claim7.holds Tryd.pinned (.plain (OpenSpec.ofChange fnExactReadFileSpec)) fnExactReadFileCard

/-- THE TIED CARD OF 'laws.FnExactSeenStaged'. -/
def fnExactSeenStagedCard : Claim7 := { stood := { row := fnExactSeenStagedRow, standIns := [], harness := (true, "aca3fc921d620824fa7d2484a8b143fcdd5007fbc9a041d63dad03a10c51b877"), looks := false }, kinds := [], alts := [], laidByText := true, laidKinds := [.data, .pinned], laidTests := true, laidLooks := .later }
def FnExactSeenStagedCardSaid : Prop := Claim7.holds Tryd.pinned (.plain (OpenSpec.ofChange fnExactSeenStagedSpec)) fnExactSeenStagedCard

/-- THE SECOND FORM's CARD OF 'laws.FnExactGoodFiles'. -/
def fnExactGoodFilesUptoCard : Claim7 := { stood := { row := fnExactGoodFilesUptoRow, standIns := [], harness := (true, "aca3fc921d620824fa7d2484a8b143fcdd5007fbc9a041d63dad03a10c51b877"), looks := false }, kinds := [], alts := [], laidByText := true, laidKinds := [.data, .pinned], laidTests := true, laidLooks := .later }
def FnExactGoodFilesUptoCardSaid : Prop := Claim7.holds Tryd.pinned (.plain (OpenSpec.upto fnExactGoodFilesSpec)) fnExactGoodFilesUptoCard

/-- THE SECOND FORM's CARD OF 'laws.FnExactGoodStore'. -/
def fnExactGoodStoreUptoCard : Claim7 := { stood := { row := fnExactGoodStoreUptoRow, standIns := [], harness := (true, "aca3fc921d620824fa7d2484a8b143fcdd5007fbc9a041d63dad03a10c51b877"), looks := false }, kinds := [], alts := [], laidByText := true, laidKinds := [.data, .pinned], laidTests := true, laidLooks := .later }
def FnExactGoodStoreUptoCardSaid : Prop := Claim7.holds Tryd.pinned (.plain (OpenSpec.upto fnExactGoodStoreSpec)) fnExactGoodStoreUptoCard

/-- THE SECOND FORM's CARD OF 'laws.FnExactReadFile'. -/
def fnExactReadFileUptoCard : Claim7 := { stood := { row := fnExactReadFileUptoRow, standIns := [], harness := (true, "aca3fc921d620824fa7d2484a8b143fcdd5007fbc9a041d63dad03a10c51b877"), looks := false }, kinds := [], alts := [], laidByText := true, laidKinds := [.data, .pinned], laidTests := true, laidLooks := .later }
def FnExactReadFileUptoCardSaid : Prop := Claim7.holds Tryd.pinned (.plain (OpenSpec.upto fnExactReadFileSpec)) fnExactReadFileUptoCard

/-- THE SECOND FORM's CARD OF 'laws.FnExactSeenStaged'. -/
def fnExactSeenStagedUptoCard : Claim7 := { stood := { row := fnExactSeenStagedUptoRow, standIns := [], harness := (true, "aca3fc921d620824fa7d2484a8b143fcdd5007fbc9a041d63dad03a10c51b877"), looks := false }, kinds := [], alts := [], laidByText := true, laidKinds := [.data, .pinned], laidTests := true, laidLooks := .later }
def FnExactSeenStagedUptoCardSaid : Prop := Claim7.holds Tryd.pinned (.plain (OpenSpec.upto fnExactSeenStagedSpec)) fnExactSeenStagedUptoCard
end Rows
end Go.Proofs.YtoahfhidekmodaaDoor
