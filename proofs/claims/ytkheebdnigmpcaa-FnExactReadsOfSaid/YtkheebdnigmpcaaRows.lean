/-
  No cell of these rows narrows 'for every input' (looked for: loops, veiled, ifaces, maps, wideKeys, modest, calm, conditions, laid).
  DERIVED. THE GIVEN ROWS OF THIS SEAT. 4 by the template 'for every input the law returns true; each argument reads behind the call as it read before'; 0 by the template 'total and deterministic' (their statements: YtkheebdnigmpcaaTotals.lean).
  GIVEN WITH THE SEED: the statements are not yours to turn. If you find one false, say at which input.
  Laid BY PROGRAM, IN A SANDBOX (cutbox-rows.mjs): the forced cells as the released guide's own fill.sh prints them over the translation e9186c08ae7b9ee5… (all of the seat's roots in one cut). By AI agents, Wed Nov 11 2026. No macro, syntax, notation, axiom, sorry.
-/
import Derived.Test.YtkheebdnigmpcaaChecked
import GoSem.Claim
import GoSem.ClaimJoined
import GoSem.ClaimMapViews
import Derived.JoinedTies
import Derived.KernelRfl
namespace Go.Proofs.Ytkheebdnigmpcaa
/- THE CELL 'sum', in the pinned program and in every row, IS THE sha256 OF THE DUMP (.gsa) THAT YtkheebdnigmpcaaProg.lean LOADS. Nothing in Lean hashes anything: it is a label: what it is worth is what the hold of that sum in a sandbox is worth. -/
noncomputable def Try.pinned : Pinned := { name := "ytkheebdnigmpcaa", sum := "e9186c08ae7b9ee5b4d9f472e7824df5baed5da10ef5c06d3a66c1e21d0d514a", checked := Try.checked }
namespace Rows
def none {H : Type} : Left H := { results := [], args := [] }

/-- 'laws.FnExactGoodRecipe': WHATEVER THE INPUT: true; the input reads as it did. -/
def fnExactGoodRecipeSpec : ChangeSpec := { name := "fnExactGoodRecipe", fn := fun _ => fun
  | [d1, d2] => { results := [.lit (.bool true)], args := [d1, d2] }
  | _ => none }
def fnExactGoodRecipeRow : OpenClaim := { program := "ytkheebdnigmpcaa", sum := "e9186c08ae7b9ee5b4d9f472e7824df5baed5da10ef5c06d3a66c1e21d0d514a", func := "loop.example/g00636/laws.FnExactGoodRecipe", spec := "fnExactGoodRecipe", unfollowed := true, recurses := true, apart := false }
def FnExactGoodRecipeSaid : Prop := fnExactGoodRecipeRow.holds Try.pinned (OpenSpec.ofChange fnExactGoodRecipeSpec)

/-- ITS FALSE NEIGHBOUR: 'it returns false'. Refute it at one input. -/
def fnExactGoodRecipeWrong : ChangeSpec := { name := "fnExactGoodRecipe", fn := fun _ => fun
  | [d1, d2] => { results := [.lit (.bool false)], args := [d1, d2] }
  | _ => none }
def FnExactGoodRecipeWrongFalsely : Prop := fnExactGoodRecipeRow.holds Try.pinned (OpenSpec.ofChange fnExactGoodRecipeWrong)

/-- 'laws.FnExactReadsOf': WHATEVER THE INPUT: true; the input reads as it did. -/
def fnExactReadsOfSpec : ChangeSpec := { name := "fnExactReadsOf", fn := fun _ => fun
  | [d] => { results := [.lit (.bool true)], args := [d] }
  | _ => none }
def fnExactReadsOfRow : OpenClaim := { program := "ytkheebdnigmpcaa", sum := "e9186c08ae7b9ee5b4d9f472e7824df5baed5da10ef5c06d3a66c1e21d0d514a", func := "loop.example/g00636/laws.FnExactReadsOf", spec := "fnExactReadsOf", unfollowed := true, recurses := true, apart := false }
def FnExactReadsOfSaid : Prop := fnExactReadsOfRow.holds Try.pinned (OpenSpec.ofChange fnExactReadsOfSpec)

/-- ITS FALSE NEIGHBOUR: 'it returns false'. Refute it at one input. -/
def fnExactReadsOfWrong : ChangeSpec := { name := "fnExactReadsOf", fn := fun _ => fun
  | [d] => { results := [.lit (.bool false)], args := [d] }
  | _ => none }
def FnExactReadsOfWrongFalsely : Prop := fnExactReadsOfRow.holds Try.pinned (OpenSpec.ofChange fnExactReadsOfWrong)

/-- 'laws.FnExactDigestOf': WHATEVER THE INPUT: true; the input reads as it did. -/
def fnExactDigestOfSpec : ChangeSpec := { name := "fnExactDigestOf", fn := fun _ => fun
  | [d] => { results := [.lit (.bool true)], args := [d] }
  | _ => none }
def fnExactDigestOfRow : OpenClaim := { program := "ytkheebdnigmpcaa", sum := "e9186c08ae7b9ee5b4d9f472e7824df5baed5da10ef5c06d3a66c1e21d0d514a", func := "loop.example/g00636/laws.FnExactDigestOf", spec := "fnExactDigestOf", apart := false }
def FnExactDigestOfSaid : Prop := fnExactDigestOfRow.holds Try.pinned (OpenSpec.ofChange fnExactDigestOfSpec)

/-- ITS FALSE NEIGHBOUR: 'it returns false'. Refute it at one input. -/
def fnExactDigestOfWrong : ChangeSpec := { name := "fnExactDigestOf", fn := fun _ => fun
  | [d] => { results := [.lit (.bool false)], args := [d] }
  | _ => none }
def FnExactDigestOfWrongFalsely : Prop := fnExactDigestOfRow.holds Try.pinned (OpenSpec.ofChange fnExactDigestOfWrong)

/-- 'laws.FnExactRecipeText': WHATEVER THE INPUT: true; the input reads as it did. -/
def fnExactRecipeTextSpec : ChangeSpec := { name := "fnExactRecipeText", fn := fun _ => fun
  | [d] => { results := [.lit (.bool true)], args := [d] }
  | _ => none }
def fnExactRecipeTextRow : OpenClaim := { program := "ytkheebdnigmpcaa", sum := "e9186c08ae7b9ee5b4d9f472e7824df5baed5da10ef5c06d3a66c1e21d0d514a", func := "loop.example/g00636/laws.FnExactRecipeText", spec := "fnExactRecipeText", inPlace := ["internal/abi.NoEscape"], unfollowed := true, recurses := true, apart := false }
def FnExactRecipeTextSaid : Prop := fnExactRecipeTextRow.holds Try.pinned (OpenSpec.ofChange fnExactRecipeTextSpec)

/-- ITS FALSE NEIGHBOUR: 'it returns false'. Refute it at one input. -/
def fnExactRecipeTextWrong : ChangeSpec := { name := "fnExactRecipeText", fn := fun _ => fun
  | [d] => { results := [.lit (.bool false)], args := [d] }
  | _ => none }
def FnExactRecipeTextWrongFalsely : Prop := fnExactRecipeTextRow.holds Try.pinned (OpenSpec.ofChange fnExactRecipeTextWrong)

/- THE SECOND FORM. 'bulk': how many values and letters a reading holds, each counted each time it is reached (what is shared counts as often as it is met; a slice's spare places count too). A statement '..UptoSaid' is the law's where the arguments, and the package variables that the reading takes, are together of bulk at most 1048576: NARROWER than '..Said'. Prove '..Said' where nothing that the law and all that it calls make is longer than what came in: it says more and counts as full. Else prove '..UptoSaid'. A law counts once. -/
mutual
def uptoBulk {H : Type} : DataW H → Nat
  | .lit (.string bytes) => bytes.length + 1
  | .lit _ => 1
  | .nil => 1
  | .ptr d => uptoBulk d + 1
  | .slice elems spare => uptoBulkAll elems + uptoBulkAll spare + 1
  | .agg parts => uptoBulkAll parts + 1
  | .iface _ d => uptoBulk d + 1
  | .map entries => uptoBulkEntries entries + 1
  | .held _ => 1
def uptoBulkAll {H : Type} : List (DataW H) → Nat
  | [] => 0
  | d :: r => uptoBulk d + uptoBulkAll r
def uptoBulkEntries {H : Type} : List (Lit × DataW H) → Nat
  | [] => 0
  | x :: r => uptoBulkEntry x + uptoBulkEntries r
def uptoBulkEntry {H : Type} : Lit × DataW H → Nat
  | (.string bytes, d) => bytes.length + uptoBulk d + 1
  | (_, d) => uptoBulk d + 1
 end
def uptoSmall : (H : Type) → List (DataW H) → Bool := fun _ ds => decide (uptoBulkAll ds ≤ 1048576)
def OpenSpec.upto (s : _root_.Go.ChangeSpec) : _root_.Go.OpenSpec := { _root_.Go.OpenSpec.ofChange s with cond := some uptoSmall }

/-- 'laws.FnExactGoodRecipe', WHERE WHAT IT READS IS OF BULK AT MOST 1048576: true; the input reads as it did. -/
def fnExactGoodRecipeUptoRow : OpenClaim := { program := "ytkheebdnigmpcaa", sum := "e9186c08ae7b9ee5b4d9f472e7824df5baed5da10ef5c06d3a66c1e21d0d514a", func := "loop.example/g00636/laws.FnExactGoodRecipe", spec := "fnExactGoodRecipe", unfollowed := true, recurses := true, apart := false, narrowed := true }
def FnExactGoodRecipeUptoSaid : Prop := fnExactGoodRecipeUptoRow.holds Try.pinned (OpenSpec.upto fnExactGoodRecipeSpec)

/-- 'laws.FnExactReadsOf', WHERE WHAT IT READS IS OF BULK AT MOST 1048576: true; the input reads as it did. -/
def fnExactReadsOfUptoRow : OpenClaim := { program := "ytkheebdnigmpcaa", sum := "e9186c08ae7b9ee5b4d9f472e7824df5baed5da10ef5c06d3a66c1e21d0d514a", func := "loop.example/g00636/laws.FnExactReadsOf", spec := "fnExactReadsOf", unfollowed := true, recurses := true, apart := false, narrowed := true }
def FnExactReadsOfUptoSaid : Prop := fnExactReadsOfUptoRow.holds Try.pinned (OpenSpec.upto fnExactReadsOfSpec)

/-- 'laws.FnExactDigestOf', WHERE WHAT IT READS IS OF BULK AT MOST 1048576: true; the input reads as it did. -/
def fnExactDigestOfUptoRow : OpenClaim := { program := "ytkheebdnigmpcaa", sum := "e9186c08ae7b9ee5b4d9f472e7824df5baed5da10ef5c06d3a66c1e21d0d514a", func := "loop.example/g00636/laws.FnExactDigestOf", spec := "fnExactDigestOf", apart := false, narrowed := true }
def FnExactDigestOfUptoSaid : Prop := fnExactDigestOfUptoRow.holds Try.pinned (OpenSpec.upto fnExactDigestOfSpec)

/-- 'laws.FnExactRecipeText', WHERE WHAT IT READS IS OF BULK AT MOST 1048576: true; the input reads as it did. -/
def fnExactRecipeTextUptoRow : OpenClaim := { program := "ytkheebdnigmpcaa", sum := "e9186c08ae7b9ee5b4d9f472e7824df5baed5da10ef5c06d3a66c1e21d0d514a", func := "loop.example/g00636/laws.FnExactRecipeText", spec := "fnExactRecipeText", inPlace := ["internal/abi.NoEscape"], unfollowed := true, recurses := true, apart := false, narrowed := true }
def FnExactRecipeTextUptoSaid : Prop := fnExactRecipeTextUptoRow.holds Try.pinned (OpenSpec.upto fnExactRecipeTextSpec)

end Rows
end Go.Proofs.Ytkheebdnigmpcaa
