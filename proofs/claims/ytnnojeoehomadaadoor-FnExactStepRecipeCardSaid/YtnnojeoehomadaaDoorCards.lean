/-
  DERIVED. GIVEN WITH THE SEED: THE CARDS: each row of YtnnojeoehomadaaDoorRows.lean that lists a variable, with what it lists TIED to the program's text (the seventh form; the later family's looks); each row that meets fmt, with fmt's text TOLD by the authors' own Lean function (tested against real Go, not proved from fmt's source: count such statements apart). THE CARD IS WHAT COUNTS. Prove the row's statement (the work); the ties are given (YtnnojeoehomadaaDoorTie.lean); close each card by the builder's one call (the guide's Derived/Test/ToyasCard.lean, 'card_holds'). Laid BY PROGRAM, IN A SANDBOX (cutbox-door.mjs). By AI agents, Wed Nov 11 2026. No macro, syntax, notation, axiom, sorry.
-/
import Derived.Test.YtnnojeoehomadaaDoorRows
import GoSem.ClaimSeven
namespace Go.Proofs.YtnnojeoehomadaaDoor
namespace Rows

/-- THE TIED CARD OF 'laws.FnRecipes'. -/
def fnRecipesCard : Claim7 := { stood := { row := fnRecipesRow, standIns := [], harness := (true, "32fbded86060af433b4d4cf2f7439b4804f44bc2cc5ef82f085f09540eee07a7"), looks := true }, kinds := [], alts := [], laidByText := true, laidKinds := [.data, .data, .data], laidTests := true, laidLooks := .later }
def FnRecipesCardSaid : Prop := Claim7.holds Tryd.pinned (.plain (OpenSpec.ofChange fnRecipesSpec)) fnRecipesCard

/-- THE TIED CARD OF 'laws.FnExactRunRecipe'. -/
def fnExactRunRecipeCard : Claim7 := { stood := { row := fnExactRunRecipeRow, standIns := [], harness := (true, "32fbded86060af433b4d4cf2f7439b4804f44bc2cc5ef82f085f09540eee07a7"), looks := true }, kinds := [], alts := [], laidByText := true, laidKinds := [.data, .data, .data], laidTests := true, laidLooks := .later }
def FnExactRunRecipeCardSaid : Prop := Claim7.holds Tryd.pinned (.plain (OpenSpec.ofChange fnExactRunRecipeSpec)) fnExactRunRecipeCard

/-- THE TIED CARD OF 'laws.FnExactStepRecipe'. -/
def fnExactStepRecipeCard : Claim7 := { stood := { row := fnExactStepRecipeRow, standIns := [], harness := (true, "32fbded86060af433b4d4cf2f7439b4804f44bc2cc5ef82f085f09540eee07a7"), looks := true }, kinds := [], alts := [], laidByText := true, laidKinds := [.data, .data, .data], laidTests := true, laidLooks := .later }
def FnExactStepRecipeCardSaid : Prop := Claim7.holds Tryd.pinned (.plain (OpenSpec.ofChange fnExactStepRecipeSpec)) fnExactStepRecipeCard

/-- THE SECOND FORM's CARD OF 'laws.FnRecipes'. -/
def fnRecipesUptoCard : Claim7 := { stood := { row := fnRecipesUptoRow, standIns := [], harness := (true, "32fbded86060af433b4d4cf2f7439b4804f44bc2cc5ef82f085f09540eee07a7"), looks := true }, kinds := [], alts := [], laidByText := true, laidKinds := [.data, .data, .data], laidTests := true, laidLooks := .later }
def FnRecipesUptoCardSaid : Prop := Claim7.holds Tryd.pinned (.plain (OpenSpec.upto fnRecipesSpec)) fnRecipesUptoCard

/-- THE SECOND FORM's CARD OF 'laws.FnExactRunRecipe'. -/
def fnExactRunRecipeUptoCard : Claim7 := { stood := { row := fnExactRunRecipeUptoRow, standIns := [], harness := (true, "32fbded86060af433b4d4cf2f7439b4804f44bc2cc5ef82f085f09540eee07a7"), looks := true }, kinds := [], alts := [], laidByText := true, laidKinds := [.data, .data, .data], laidTests := true, laidLooks := .later }
def FnExactRunRecipeUptoCardSaid : Prop := Claim7.holds Tryd.pinned (.plain (OpenSpec.upto fnExactRunRecipeSpec)) fnExactRunRecipeUptoCard

/-- THE SECOND FORM's CARD OF 'laws.FnExactStepRecipe'. -/
def fnExactStepRecipeUptoCard : Claim7 := { stood := { row := fnExactStepRecipeUptoRow, standIns := [], harness := (true, "32fbded86060af433b4d4cf2f7439b4804f44bc2cc5ef82f085f09540eee07a7"), looks := true }, kinds := [], alts := [], laidByText := true, laidKinds := [.data, .data, .data], laidTests := true, laidLooks := .later }
def FnExactStepRecipeUptoCardSaid : Prop := Claim7.holds Tryd.pinned (.plain (OpenSpec.upto fnExactStepRecipeSpec)) fnExactStepRecipeUptoCard
end Rows
end Go.Proofs.YtnnojeoehomadaaDoor
