/-
  No cell of these rows narrows 'for every input' (looked for: loops, veiled, ifaces, maps, wideKeys, modest, calm, conditions, laid).
  DERIVED. THE GIVEN ROWS OF THIS SEAT. 9 by the template 'for every input the law returns true; each argument reads behind the call as it read before'; 0 by the template 'total and deterministic' (their statements: YtcplooeohdhlkaaTotals.lean).
  GIVEN WITH THE SEED: the statements are not yours to turn. If you find one false, say at which input.
  Laid BY PROGRAM, IN A SANDBOX (cutbox-rows.mjs): the forced cells as the released guide's own fill.sh prints them over the translation 3acb126168ff44b7… (all of the seat's roots in one cut). By AI agents, Wed Nov 11 2026. No macro, syntax, notation, axiom, sorry.
-/
import Derived.Test.YtcplooeohdhlkaaChecked
import GoSem.Claim
import GoSem.ClaimJoined
import GoSem.ClaimMapViews
import Derived.JoinedTies
import Derived.KernelRfl
namespace Go.Proofs.Ytcplooeohdhlkaa
/- THE CELL 'sum', in the pinned program and in every row, IS THE sha256 OF THE DUMP (.gsa) THAT YtcplooeohdhlkaaProg.lean LOADS. Nothing in Lean hashes anything: it is a label: what it is worth is what the hold of that sum in a sandbox is worth. -/
noncomputable def Try.pinned : Pinned := { name := "ytcplooeohdhlkaa", sum := "3acb126168ff44b7d0186610fd64b4f3907ac52a04f0e6e446e80631ba09f60c", checked := Try.checked }
namespace Rows
def none {H : Type} : Left H := { results := [], args := [] }

/-- 'laws.FnFits': WHATEVER THE INPUT: true; the input reads as it did. -/
def fnFitsSpec : ChangeSpec := { name := "fnFits", fn := fun _ => fun
  | [d1, d2] => { results := [.lit (.bool true)], args := [d1, d2] }
  | _ => none }
def fnFitsRow : OpenClaim := { program := "ytcplooeohdhlkaa", sum := "3acb126168ff44b7d0186610fd64b4f3907ac52a04f0e6e446e80631ba09f60c", func := "loop.example/g00636/laws.FnFits", spec := "fnFits", recurses := true, apart := false }
def FnFitsSaid : Prop := fnFitsRow.holds Try.pinned (OpenSpec.ofChange fnFitsSpec)

/-- ITS FALSE NEIGHBOUR: 'it returns false'. Refute it at one input. -/
def fnFitsWrong : ChangeSpec := { name := "fnFits", fn := fun _ => fun
  | [d1, d2] => { results := [.lit (.bool false)], args := [d1, d2] }
  | _ => none }
def FnFitsWrongFalsely : Prop := fnFitsRow.holds Try.pinned (OpenSpec.ofChange fnFitsWrong)

/-- 'laws.FnStems': WHATEVER THE INPUT: true; the input reads as it did. -/
def fnStemsSpec : ChangeSpec := { name := "fnStems", fn := fun _ => fun
  | [d1, d2] => { results := [.lit (.bool true)], args := [d1, d2] }
  | _ => none }
def fnStemsRow : OpenClaim := { program := "ytcplooeohdhlkaa", sum := "3acb126168ff44b7d0186610fd64b4f3907ac52a04f0e6e446e80631ba09f60c", func := "loop.example/g00636/laws.FnStems", spec := "fnStems", inPlace := ["internal/bytealg.IndexByteString", "internal/bytealg.IndexString", "internal/abi.NoEscape", "internal/bytealg.MakeNoZero"], named := ["internal/bytealg.MaxLen"], apart := false }
def FnStemsSaid : Prop := fnStemsRow.holds Try.pinned (OpenSpec.ofChange fnStemsSpec)

/-- ITS FALSE NEIGHBOUR: 'it returns false'. Refute it at one input. -/
def fnStemsWrong : ChangeSpec := { name := "fnStems", fn := fun _ => fun
  | [d1, d2] => { results := [.lit (.bool false)], args := [d1, d2] }
  | _ => none }
def FnStemsWrongFalsely : Prop := fnStemsRow.holds Try.pinned (OpenSpec.ofChange fnStemsWrong)

/-- 'laws.FnExactFits': WHATEVER THE INPUT: true; the input reads as it did. -/
def fnExactFitsSpec : ChangeSpec := { name := "fnExactFits", fn := fun _ => fun
  | [d1, d2] => { results := [.lit (.bool true)], args := [d1, d2] }
  | _ => none }
def fnExactFitsRow : OpenClaim := { program := "ytcplooeohdhlkaa", sum := "3acb126168ff44b7d0186610fd64b4f3907ac52a04f0e6e446e80631ba09f60c", func := "loop.example/g00636/laws.FnExactFits", spec := "fnExactFits", apart := false }
def FnExactFitsSaid : Prop := fnExactFitsRow.holds Try.pinned (OpenSpec.ofChange fnExactFitsSpec)

/-- ITS FALSE NEIGHBOUR: 'it returns false'. Refute it at one input. -/
def fnExactFitsWrong : ChangeSpec := { name := "fnExactFits", fn := fun _ => fun
  | [d1, d2] => { results := [.lit (.bool false)], args := [d1, d2] }
  | _ => none }
def FnExactFitsWrongFalsely : Prop := fnExactFitsRow.holds Try.pinned (OpenSpec.ofChange fnExactFitsWrong)

/-- 'laws.FnExactFitsAll': WHATEVER THE INPUT: true; the input reads as it did. -/
def fnExactFitsAllSpec : ChangeSpec := { name := "fnExactFitsAll", fn := fun _ => fun
  | [d1, d2] => { results := [.lit (.bool true)], args := [d1, d2] }
  | _ => none }
def fnExactFitsAllRow : OpenClaim := { program := "ytcplooeohdhlkaa", sum := "3acb126168ff44b7d0186610fd64b4f3907ac52a04f0e6e446e80631ba09f60c", func := "loop.example/g00636/laws.FnExactFitsAll", spec := "fnExactFitsAll", apart := false }
def FnExactFitsAllSaid : Prop := fnExactFitsAllRow.holds Try.pinned (OpenSpec.ofChange fnExactFitsAllSpec)

/-- ITS FALSE NEIGHBOUR: 'it returns false'. Refute it at one input. -/
def fnExactFitsAllWrong : ChangeSpec := { name := "fnExactFitsAll", fn := fun _ => fun
  | [d1, d2] => { results := [.lit (.bool false)], args := [d1, d2] }
  | _ => none }
def FnExactFitsAllWrongFalsely : Prop := fnExactFitsAllRow.holds Try.pinned (OpenSpec.ofChange fnExactFitsAllWrong)

/-- 'laws.FnExactStemOf': WHATEVER THE INPUT: true; the input reads as it did. -/
def fnExactStemOfSpec : ChangeSpec := { name := "fnExactStemOf", fn := fun _ => fun
  | [d1, d2] => { results := [.lit (.bool true)], args := [d1, d2] }
  | _ => none }
def fnExactStemOfRow : OpenClaim := { program := "ytcplooeohdhlkaa", sum := "3acb126168ff44b7d0186610fd64b4f3907ac52a04f0e6e446e80631ba09f60c", func := "loop.example/g00636/laws.FnExactStemOf", spec := "fnExactStemOf", inPlace := ["internal/bytealg.IndexByteString", "internal/bytealg.IndexString"], named := ["internal/bytealg.MaxLen"], apart := false }
def FnExactStemOfSaid : Prop := fnExactStemOfRow.holds Try.pinned (OpenSpec.ofChange fnExactStemOfSpec)

/-- ITS FALSE NEIGHBOUR: 'it returns false'. Refute it at one input. -/
def fnExactStemOfWrong : ChangeSpec := { name := "fnExactStemOf", fn := fun _ => fun
  | [d1, d2] => { results := [.lit (.bool false)], args := [d1, d2] }
  | _ => none }
def FnExactStemOfWrongFalsely : Prop := fnExactStemOfRow.holds Try.pinned (OpenSpec.ofChange fnExactStemOfWrong)

/-- 'laws.FnExactFillStem': WHATEVER THE INPUT: true; the input reads as it did. -/
def fnExactFillStemSpec : ChangeSpec := { name := "fnExactFillStem", fn := fun _ => fun
  | [d1, d2] => { results := [.lit (.bool true)], args := [d1, d2] }
  | _ => none }
def fnExactFillStemRow : OpenClaim := { program := "ytcplooeohdhlkaa", sum := "3acb126168ff44b7d0186610fd64b4f3907ac52a04f0e6e446e80631ba09f60c", func := "loop.example/g00636/laws.FnExactFillStem", spec := "fnExactFillStem", inPlace := ["internal/bytealg.IndexByteString", "internal/bytealg.IndexString", "internal/abi.NoEscape", "internal/bytealg.MakeNoZero"], named := ["internal/bytealg.MaxLen"], apart := false }
def FnExactFillStemSaid : Prop := fnExactFillStemRow.holds Try.pinned (OpenSpec.ofChange fnExactFillStemSpec)

/-- ITS FALSE NEIGHBOUR: 'it returns false'. Refute it at one input. -/
def fnExactFillStemWrong : ChangeSpec := { name := "fnExactFillStem", fn := fun _ => fun
  | [d1, d2] => { results := [.lit (.bool false)], args := [d1, d2] }
  | _ => none }
def FnExactFillStemWrongFalsely : Prop := fnExactFillStemRow.holds Try.pinned (OpenSpec.ofChange fnExactFillStemWrong)

/-- 'laws.FnExactStepPlaces': WHATEVER THE INPUT: true; the input reads as it did. -/
def fnExactStepPlacesSpec : ChangeSpec := { name := "fnExactStepPlaces", fn := fun _ => fun
  | [d1, d2, d3] => { results := [.lit (.bool true)], args := [d1, d2, d3] }
  | _ => none }
def fnExactStepPlacesRow : OpenClaim := { program := "ytcplooeohdhlkaa", sum := "3acb126168ff44b7d0186610fd64b4f3907ac52a04f0e6e446e80631ba09f60c", func := "loop.example/g00636/laws.FnExactStepPlaces", spec := "fnExactStepPlaces", apart := false }
def FnExactStepPlacesSaid : Prop := fnExactStepPlacesRow.holds Try.pinned (OpenSpec.ofChange fnExactStepPlacesSpec)

/-- ITS FALSE NEIGHBOUR: 'it returns false'. Refute it at one input. -/
def fnExactStepPlacesWrong : ChangeSpec := { name := "fnExactStepPlaces", fn := fun _ => fun
  | [d1, d2, d3] => { results := [.lit (.bool false)], args := [d1, d2, d3] }
  | _ => none }
def FnExactStepPlacesWrongFalsely : Prop := fnExactStepPlacesRow.holds Try.pinned (OpenSpec.ofChange fnExactStepPlacesWrong)

/-- 'laws.FnExactStartPlaces': WHATEVER THE INPUT: true; the input reads as it did. -/
def fnExactStartPlacesSpec : ChangeSpec := { name := "fnExactStartPlaces", fn := fun _ => fun
  | [d] => { results := [.lit (.bool true)], args := [d] }
  | _ => none }
def fnExactStartPlacesRow : OpenClaim := { program := "ytcplooeohdhlkaa", sum := "3acb126168ff44b7d0186610fd64b4f3907ac52a04f0e6e446e80631ba09f60c", func := "loop.example/g00636/laws.FnExactStartPlaces", spec := "fnExactStartPlaces", apart := false }
def FnExactStartPlacesSaid : Prop := fnExactStartPlacesRow.holds Try.pinned (OpenSpec.ofChange fnExactStartPlacesSpec)

/-- ITS FALSE NEIGHBOUR: 'it returns false'. Refute it at one input. -/
def fnExactStartPlacesWrong : ChangeSpec := { name := "fnExactStartPlaces", fn := fun _ => fun
  | [d] => { results := [.lit (.bool false)], args := [d] }
  | _ => none }
def FnExactStartPlacesWrongFalsely : Prop := fnExactStartPlacesRow.holds Try.pinned (OpenSpec.ofChange fnExactStartPlacesWrong)

/-- 'laws.FnExactIsPlain': WHATEVER THE INPUT: true; the input reads as it did. -/
def fnExactIsPlainSpec : ChangeSpec := { name := "fnExactIsPlain", fn := fun _ => fun
  | [d] => { results := [.lit (.bool true)], args := [d] }
  | _ => none }
def fnExactIsPlainRow : OpenClaim := { program := "ytcplooeohdhlkaa", sum := "3acb126168ff44b7d0186610fd64b4f3907ac52a04f0e6e446e80631ba09f60c", func := "loop.example/g00636/laws.FnExactIsPlain", spec := "fnExactIsPlain", apart := false }
def FnExactIsPlainSaid : Prop := fnExactIsPlainRow.holds Try.pinned (OpenSpec.ofChange fnExactIsPlainSpec)

/-- ITS FALSE NEIGHBOUR: 'it returns false'. Refute it at one input. -/
def fnExactIsPlainWrong : ChangeSpec := { name := "fnExactIsPlain", fn := fun _ => fun
  | [d] => { results := [.lit (.bool false)], args := [d] }
  | _ => none }
def FnExactIsPlainWrongFalsely : Prop := fnExactIsPlainRow.holds Try.pinned (OpenSpec.ofChange fnExactIsPlainWrong)

/- THE SECOND FORM. 'bulk': how many values and letters a reading holds, each counted each time it is reached (what is shared counts as often as it is met; a slice's spare places count too). A statement '..UptoSaid' is the law's where the arguments, and the package variables that the reading takes, are together of bulk at most 1048576: NARROWER than '..Said'. Prove '..Said' where nothing that the law and all that it calls make is longer than what came in: it says more and counts as full. Else prove '..UptoSaid'. A law counts once. -/
mutual
def uptoBulk {H : Type} : DataW H → Nat
  | .lit (.string bytes) => bytes.length + 1
  | .lit _ => 1
  | .nil => 1
  | .ptr d => uptoBulk d + 1
  | .slice elems spare => uptoBulkAll elems + uptoBulkAll spare + 1
  | .agg parts => uptoBulkAll parts + 1
  | .iface _ d => uptoBulk d + 1
  | .map entries => uptoBulkEntries entries + 1
  | .held _ => 1
def uptoBulkAll {H : Type} : List (DataW H) → Nat
  | [] => 0
  | d :: r => uptoBulk d + uptoBulkAll r
def uptoBulkEntries {H : Type} : List (Lit × DataW H) → Nat
  | [] => 0
  | x :: r => uptoBulkEntry x + uptoBulkEntries r
def uptoBulkEntry {H : Type} : Lit × DataW H → Nat
  | (.string bytes, d) => bytes.length + uptoBulk d + 1
  | (_, d) => uptoBulk d + 1
 end
def uptoSmall : (H : Type) → List (DataW H) → Bool := fun _ ds => decide (uptoBulkAll ds ≤ 1048576)
def OpenSpec.upto (s : _root_.Go.ChangeSpec) : _root_.Go.OpenSpec := { _root_.Go.OpenSpec.ofChange s with cond := some uptoSmall }

/-- 'laws.FnFits', WHERE WHAT IT READS IS OF BULK AT MOST 1048576: true; the input reads as it did. -/
def fnFitsUptoRow : OpenClaim := { program := "ytcplooeohdhlkaa", sum := "3acb126168ff44b7d0186610fd64b4f3907ac52a04f0e6e446e80631ba09f60c", func := "loop.example/g00636/laws.FnFits", spec := "fnFits", recurses := true, apart := false, narrowed := true }
def FnFitsUptoSaid : Prop := fnFitsUptoRow.holds Try.pinned (OpenSpec.upto fnFitsSpec)

/-- 'laws.FnStems', WHERE WHAT IT READS IS OF BULK AT MOST 1048576: true; the input reads as it did. -/
def fnStemsUptoRow : OpenClaim := { program := "ytcplooeohdhlkaa", sum := "3acb126168ff44b7d0186610fd64b4f3907ac52a04f0e6e446e80631ba09f60c", func := "loop.example/g00636/laws.FnStems", spec := "fnStems", inPlace := ["internal/bytealg.IndexByteString", "internal/bytealg.IndexString", "internal/abi.NoEscape", "internal/bytealg.MakeNoZero"], named := ["internal/bytealg.MaxLen"], apart := false, narrowed := true }
def FnStemsUptoSaid : Prop := fnStemsUptoRow.holds Try.pinned (OpenSpec.upto fnStemsSpec)

/-- 'laws.FnExactFits', WHERE WHAT IT READS IS OF BULK AT MOST 1048576: true; the input reads as it did. -/
def fnExactFitsUptoRow : OpenClaim := { program := "ytcplooeohdhlkaa", sum := "3acb126168ff44b7d0186610fd64b4f3907ac52a04f0e6e446e80631ba09f60c", func := "loop.example/g00636/laws.FnExactFits", spec := "fnExactFits", apart := false, narrowed := true }
def FnExactFitsUptoSaid : Prop := fnExactFitsUptoRow.holds Try.pinned (OpenSpec.upto fnExactFitsSpec)

/-- 'laws.FnExactFitsAll', WHERE WHAT IT READS IS OF BULK AT MOST 1048576: true; the input reads as it did. -/
def fnExactFitsAllUptoRow : OpenClaim := { program := "ytcplooeohdhlkaa", sum := "3acb126168ff44b7d0186610fd64b4f3907ac52a04f0e6e446e80631ba09f60c", func := "loop.example/g00636/laws.FnExactFitsAll", spec := "fnExactFitsAll", apart := false, narrowed := true }
def FnExactFitsAllUptoSaid : Prop := fnExactFitsAllUptoRow.holds Try.pinned (OpenSpec.upto fnExactFitsAllSpec)

/-- 'laws.FnExactStemOf', WHERE WHAT IT READS IS OF BULK AT MOST 1048576: true; the input reads as it did. -/
def fnExactStemOfUptoRow : OpenClaim := { program := "ytcplooeohdhlkaa", sum := "3acb126168ff44b7d0186610fd64b4f3907ac52a04f0e6e446e80631ba09f60c", func := "loop.example/g00636/laws.FnExactStemOf", spec := "fnExactStemOf", inPlace := ["internal/bytealg.IndexByteString", "internal/bytealg.IndexString"], named := ["internal/bytealg.MaxLen"], apart := false, narrowed := true }
def FnExactStemOfUptoSaid : Prop := fnExactStemOfUptoRow.holds Try.pinned (OpenSpec.upto fnExactStemOfSpec)

/-- 'laws.FnExactFillStem', WHERE WHAT IT READS IS OF BULK AT MOST 1048576: true; the input reads as it did. -/
def fnExactFillStemUptoRow : OpenClaim := { program := "ytcplooeohdhlkaa", sum := "3acb126168ff44b7d0186610fd64b4f3907ac52a04f0e6e446e80631ba09f60c", func := "loop.example/g00636/laws.FnExactFillStem", spec := "fnExactFillStem", inPlace := ["internal/bytealg.IndexByteString", "internal/bytealg.IndexString", "internal/abi.NoEscape", "internal/bytealg.MakeNoZero"], named := ["internal/bytealg.MaxLen"], apart := false, narrowed := true }
def FnExactFillStemUptoSaid : Prop := fnExactFillStemUptoRow.holds Try.pinned (OpenSpec.upto fnExactFillStemSpec)

/-- 'laws.FnExactStepPlaces', WHERE WHAT IT READS IS OF BULK AT MOST 1048576: true; the input reads as it did. -/
def fnExactStepPlacesUptoRow : OpenClaim := { program := "ytcplooeohdhlkaa", sum := "3acb126168ff44b7d0186610fd64b4f3907ac52a04f0e6e446e80631ba09f60c", func := "loop.example/g00636/laws.FnExactStepPlaces", spec := "fnExactStepPlaces", apart := false, narrowed := true }
def FnExactStepPlacesUptoSaid : Prop := fnExactStepPlacesUptoRow.holds Try.pinned (OpenSpec.upto fnExactStepPlacesSpec)

/-- 'laws.FnExactStartPlaces', WHERE WHAT IT READS IS OF BULK AT MOST 1048576: true; the input reads as it did. -/
def fnExactStartPlacesUptoRow : OpenClaim := { program := "ytcplooeohdhlkaa", sum := "3acb126168ff44b7d0186610fd64b4f3907ac52a04f0e6e446e80631ba09f60c", func := "loop.example/g00636/laws.FnExactStartPlaces", spec := "fnExactStartPlaces", apart := false, narrowed := true }
def FnExactStartPlacesUptoSaid : Prop := fnExactStartPlacesUptoRow.holds Try.pinned (OpenSpec.upto fnExactStartPlacesSpec)

/-- 'laws.FnExactIsPlain', WHERE WHAT IT READS IS OF BULK AT MOST 1048576: true; the input reads as it did. -/
def fnExactIsPlainUptoRow : OpenClaim := { program := "ytcplooeohdhlkaa", sum := "3acb126168ff44b7d0186610fd64b4f3907ac52a04f0e6e446e80631ba09f60c", func := "loop.example/g00636/laws.FnExactIsPlain", spec := "fnExactIsPlain", apart := false, narrowed := true }
def FnExactIsPlainUptoSaid : Prop := fnExactIsPlainUptoRow.holds Try.pinned (OpenSpec.upto fnExactIsPlainSpec)

end Rows
end Go.Proofs.Ytcplooeohdhlkaa
