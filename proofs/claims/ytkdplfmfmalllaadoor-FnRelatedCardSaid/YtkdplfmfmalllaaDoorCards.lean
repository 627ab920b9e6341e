/-
  DERIVED. GIVEN WITH THE SEED: THE CARDS: each row of YtkdplfmfmalllaaDoorRows.lean that lists a variable, with what it lists TIED to the program's text (the seventh form; the later family's looks); each row that meets fmt, with fmt's text TOLD by the authors' own Lean function (tested against real Go, not proved from fmt's source: count such statements apart). THE CARD IS WHAT COUNTS. Prove the row's statement (the work); the ties are given (YtkdplfmfmalllaaDoorTie.lean); close each card by the builder's one call (the guide's Derived/Test/ToyasCard.lean, 'card_holds'). Laid BY PROGRAM, IN A SANDBOX (cutbox-door.mjs). By AI agents, Wed Nov 11 2026. No macro, syntax, notation, axiom, sorry.
-/
import Derived.Test.YtkdplfmfmalllaaDoorRows
import GoSem.ClaimSeven
namespace Go.Proofs.YtkdplfmfmalllaaDoor
namespace Rows

/-- THE TIED CARD OF 'laws.FnClean'. -/
def fnCleanCard : Claim7 := { stood := { row := fnCleanRow, standIns := [], harness := (true, "4337630746e7fa958b74086b8bf12c0a9b7fd43d45f188189a90d1af00552d4f"), looks := false }, kinds := [], alts := [], laidByText := true, laidKinds := [.data, .pinned], laidTests := true, laidLooks := .later }
def FnCleanCardSaid : Prop := Claim7.holds Tryd.pinned (.plain (OpenSpec.ofChange fnCleanSpec)) fnCleanCard

/-- THE TIED CARD OF 'laws.FnRelated'. -/
def fnRelatedCard : Claim7 := { stood := { row := fnRelatedRow, standIns := [], harness := (true, "4337630746e7fa958b74086b8bf12c0a9b7fd43d45f188189a90d1af00552d4f"), looks := false }, kinds := [], alts := [], laidByText := true, laidKinds := [.data, .pinned], laidTests := true, laidLooks := .later }
def FnRelatedCardSaid : Prop := Claim7.holds Tryd.pinned (.plain (OpenSpec.ofChange fnRelatedSpec)) fnRelatedCard

/-- THE TIED CARD OF 'laws.FnExactCleanPath'. -/
def fnExactCleanPathCard : Claim7 := { stood := { row := fnExactCleanPathRow, standIns := [], harness := (true, "4337630746e7fa958b74086b8bf12c0a9b7fd43d45f188189a90d1af00552d4f"), looks := false }, kinds := [], alts := [], laidByText := true, laidKinds := [.data, .pinned], laidTests := true, laidLooks := .later }
def FnExactCleanPathCardSaid : Prop := Claim7.holds Tryd.pinned (.plain (OpenSpec.ofChange fnExactCleanPathSpec)) fnExactCleanPathCard

/-- THE TIED CARD OF 'laws.FnExactIsClean'. -/
def fnExactIsCleanCard : Claim7 := { stood := { row := fnExactIsCleanRow, standIns := [], harness := (true, "4337630746e7fa958b74086b8bf12c0a9b7fd43d45f188189a90d1af00552d4f"), looks := false }, kinds := [], alts := [], laidByText := true, laidKinds := [.data, .pinned], laidTests := true, laidLooks := .later }
def FnExactIsCleanCardSaid : Prop := Claim7.holds Tryd.pinned (.plain (OpenSpec.ofChange fnExactIsCleanSpec)) fnExactIsCleanCard

/-- THE TIED CARD OF 'laws.FnExactJoinPath'. -/
def fnExactJoinPathCard : Claim7 := { stood := { row := fnExactJoinPathRow, standIns := [], harness := (true, "4337630746e7fa958b74086b8bf12c0a9b7fd43d45f188189a90d1af00552d4f"), looks := false }, kinds := [], alts := [], laidByText := true, laidKinds := [.data, .pinned], laidTests := true, laidLooks := .later }
def FnExactJoinPathCardSaid : Prop := Claim7.holds Tryd.pinned (.plain (OpenSpec.ofChange fnExactJoinPathSpec)) fnExactJoinPathCard

/-- THE TIED CARD OF 'laws.FnExactDirOf'. -/
def fnExactDirOfCard : Claim7 := { stood := { row := fnExactDirOfRow, standIns := [], harness := (true, "4337630746e7fa958b74086b8bf12c0a9b7fd43d45f188189a90d1af00552d4f"), looks := false }, kinds := [], alts := [], laidByText := true, laidKinds := [.data, .pinned], laidTests := true, laidLooks := .later }
def FnExactDirOfCardSaid : Prop := Claim7.holds Tryd.pinned (.plain (OpenSpec.ofChange fnExactDirOfSpec)) fnExactDirOfCard

/-- THE TIED CARD OF 'laws.FnExactBaseOf'. -/
def fnExactBaseOfCard : Claim7 := { stood := { row := fnExactBaseOfRow, standIns := [], harness := (true, "4337630746e7fa958b74086b8bf12c0a9b7fd43d45f188189a90d1af00552d4f"), looks := false }, kinds := [], alts := [], laidByText := true, laidKinds := [.data, .pinned], laidTests := true, laidLooks := .later }
def FnExactBaseOfCardSaid : Prop := Claim7.holds Tryd.pinned (.plain (OpenSpec.ofChange fnExactBaseOfSpec)) fnExactBaseOfCard

/-- THE TIED CARD OF 'laws.FnExactIsWithin'. -/
def fnExactIsWithinCard : Claim7 := { stood := { row := fnExactIsWithinRow, standIns := [], harness := (true, "4337630746e7fa958b74086b8bf12c0a9b7fd43d45f188189a90d1af00552d4f"), looks := false }, kinds := [], alts := [], laidByText := true, laidKinds := [.data, .pinned], laidTests := true, laidLooks := .later }
def FnExactIsWithinCardSaid : Prop := Claim7.holds Tryd.pinned (.plain (OpenSpec.ofChange fnExactIsWithinSpec)) fnExactIsWithinCard

/-- THE TIED CARD OF 'laws.FnExactRelPath'. -/
def fnExactRelPathCard : Claim7 := { stood := { row := fnExactRelPathRow, standIns := [], harness := (true, "4337630746e7fa958b74086b8bf12c0a9b7fd43d45f188189a90d1af00552d4f"), looks := false }, kinds := [], alts := [], laidByText := true, laidKinds := [.data, .pinned], laidTests := true, laidLooks := .later }
def FnExactRelPathCardSaid : Prop := Claim7.holds Tryd.pinned (.plain (OpenSpec.ofChange fnExactRelPathSpec)) fnExactRelPathCard

/-- THE SECOND FORM's CARD OF 'laws.FnClean'. -/
def fnCleanUptoCard : Claim7 := { stood := { row := fnCleanUptoRow, standIns := [], harness := (true, "4337630746e7fa958b74086b8bf12c0a9b7fd43d45f188189a90d1af00552d4f"), looks := false }, kinds := [], alts := [], laidByText := true, laidKinds := [.data, .pinned], laidTests := true, laidLooks := .later }
def FnCleanUptoCardSaid : Prop := Claim7.holds Tryd.pinned (.plain (OpenSpec.upto fnCleanSpec)) fnCleanUptoCard

/-- THE SECOND FORM's CARD OF 'laws.FnRelated'. -/
def fnRelatedUptoCard : Claim7 := { stood := { row := fnRelatedUptoRow, standIns := [], harness := (true, "4337630746e7fa958b74086b8bf12c0a9b7fd43d45f188189a90d1af00552d4f"), looks := false }, kinds := [], alts := [], laidByText := true, laidKinds := [.data, .pinned], laidTests := true, laidLooks := .later }
def FnRelatedUptoCardSaid : Prop := Claim7.holds Tryd.pinned (.plain (OpenSpec.upto fnRelatedSpec)) fnRelatedUptoCard

/-- THE SECOND FORM's CARD OF 'laws.FnExactCleanPath'. -/
def fnExactCleanPathUptoCard : Claim7 := { stood := { row := fnExactCleanPathUptoRow, standIns := [], harness := (true, "4337630746e7fa958b74086b8bf12c0a9b7fd43d45f188189a90d1af00552d4f"), looks := false }, kinds := [], alts := [], laidByText := true, laidKinds := [.data, .pinned], laidTests := true, laidLooks := .later }
def FnExactCleanPathUptoCardSaid : Prop := Claim7.holds Tryd.pinned (.plain (OpenSpec.upto fnExactCleanPathSpec)) fnExactCleanPathUptoCard

/-- THE SECOND FORM's CARD OF 'laws.FnExactIsClean'. -/
def fnExactIsCleanUptoCard : Claim7 := { stood := { row := fnExactIsCleanUptoRow, standIns := [], harness := (true, "4337630746e7fa958b74086b8bf12c0a9b7fd43d45f188189a90d1af00552d4f"), looks := false }, kinds := [], alts := [], laidByText := true, laidKinds := [.data, .pinned], laidTests := true, laidLooks := .later }
def FnExactIsCleanUptoCardSaid : Prop := Claim7.holds Tryd.pinned (.plain (OpenSpec.upto fnExactIsCleanSpec)) fnExactIsCleanUptoCard

/-- THE SECOND FORM's CARD OF 'laws.FnExactJoinPath'. -/
def fnExactJoinPathUptoCard : Claim7 := { stood := { row := fnExactJoinPathUptoRow, standIns := [], harness := (true, "4337630746e7fa958b74086b8bf12c0a9b7fd43d45f188189a90d1af00552d4f"), looks := false }, kinds := [], alts := [], laidByText := true, laidKinds := [.data, .pinned], laidTests := true, laidLooks := .later }
def FnExactJoinPathUptoCardSaid : Prop := Claim7.holds Tryd.pinned (.plain (OpenSpec.upto fnExactJoinPathSpec)) fnExactJoinPathUptoCard

/-- THE SECOND FORM's CARD OF 'laws.FnExactDirOf'. -/
def fnExactDirOfUptoCard : Claim7 := { stood := { row := fnExactDirOfUptoRow, standIns := [], harness := (true, "4337630746e7fa958b74086b8bf12c0a9b7fd43d45f188189a90d1af00552d4f"), looks := false }, kinds := [], alts := [], laidByText := true, laidKinds := [.data, .pinned], laidTests := true, laidLooks := .later }
def FnExactDirOfUptoCardSaid : Prop := Claim7.holds Tryd.pinned (.plain (OpenSpec.upto fnExactDirOfSpec)) fnExactDirOfUptoCard

/-- THE SECOND FORM's CARD OF 'laws.FnExactBaseOf'. -/
def fnExactBaseOfUptoCard : Claim7 := { stood := { row := fnExactBaseOfUptoRow, standIns := [], harness := (true, "4337630746e7fa958b74086b8bf12c0a9b7fd43d45f188189a90d1af00552d4f"), looks := false }, kinds := [], alts := [], laidByText := true, laidKinds := [.data, .pinned], laidTests := true, laidLooks := .later }
def FnExactBaseOfUptoCardSaid : Prop := Claim7.holds Tryd.pinned (.plain (OpenSpec.upto fnExactBaseOfSpec)) fnExactBaseOfUptoCard

/-- THE SECOND FORM's CARD OF 'laws.FnExactIsWithin'. -/
def fnExactIsWithinUptoCard : Claim7 := { stood := { row := fnExactIsWithinUptoRow, standIns := [], harness := (true, "4337630746e7fa958b74086b8bf12c0a9b7fd43d45f188189a90d1af00552d4f"), looks := false }, kinds := [], alts := [], laidByText := true, laidKinds := [.data, .pinned], laidTests := true, laidLooks := .later }
def FnExactIsWithinUptoCardSaid : Prop := Claim7.holds Tryd.pinned (.plain (OpenSpec.upto fnExactIsWithinSpec)) fnExactIsWithinUptoCard

/-- THE SECOND FORM's CARD OF 'laws.FnExactRelPath'. -/
def fnExactRelPathUptoCard : Claim7 := { stood := { row := fnExactRelPathUptoRow, standIns := [], harness := (true, "4337630746e7fa958b74086b8bf12c0a9b7fd43d45f188189a90d1af00552d4f"), looks := false }, kinds := [], alts := [], laidByText := true, laidKinds := [.data, .pinned], laidTests := true, laidLooks := .later }
def FnExactRelPathUptoCardSaid : Prop := Claim7.holds Tryd.pinned (.plain (OpenSpec.upto fnExactRelPathSpec)) fnExactRelPathUptoCard
end Rows
end Go.Proofs.YtkdplfmfmalllaaDoor
