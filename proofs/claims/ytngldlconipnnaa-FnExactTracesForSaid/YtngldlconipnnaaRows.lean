/-
  No cell of these rows narrows 'for every input' (looked for: loops, veiled, ifaces, maps, wideKeys, modest, calm, conditions, laid).
  DERIVED. THE GIVEN ROWS OF THIS SEAT. 5 by the template 'for every input the law returns true; each argument reads behind the call as it read before'; 0 by the template 'total and deterministic' (their statements: YtngldlconipnnaaTotals.lean).
  GIVEN WITH THE SEED: the statements are not yours to turn. If you find one false, say at which input.
  Laid BY PROGRAM, IN A SANDBOX (cutbox-rows.mjs): the forced cells as the released guide's own fill.sh prints them over the translation c14dcead53eb981a… (all of the seat's roots in one cut). By AI agents, Wed Nov 11 2026. No macro, syntax, notation, axiom, sorry.
-/
import Derived.Test.YtngldlconipnnaaChecked
import GoSem.Claim
import GoSem.ClaimJoined
import GoSem.ClaimMapViews
import Derived.JoinedTies
import Derived.KernelRfl
namespace Go.Proofs.Ytngldlconipnnaa
/- THE CELL 'sum', in the pinned program and in every row, IS THE sha256 OF THE DUMP (.gsa) THAT YtngldlconipnnaaProg.lean LOADS. Nothing in Lean hashes anything: it is a label: what it is worth is what the hold of that sum in a sandbox is worth. -/
noncomputable def Try.pinned : Pinned := { name := "ytngldlconipnnaa", sum := "c14dcead53eb981a2bcf7d78cf42d73dabe673a9be1bddf074c6ac85b00cf8d4", checked := Try.checked }
namespace Rows
def none {H : Type} : Left H := { results := [], args := [] }

/-- 'laws.FnNoted': WHATEVER THE INPUT: true; the input reads as it did. -/
def fnNotedSpec : ChangeSpec := { name := "fnNoted", fn := fun _ => fun
  | [d1, d2] => { results := [.lit (.bool true)], args := [d1, d2] }
  | _ => none }
def fnNotedRow : OpenClaim := { program := "ytngldlconipnnaa", sum := "c14dcead53eb981a2bcf7d78cf42d73dabe673a9be1bddf074c6ac85b00cf8d4", func := "loop.example/g00636/laws.FnNoted", spec := "fnNoted", unfollowed := true, recurses := true, apart := false }
def FnNotedSaid : Prop := fnNotedRow.holds Try.pinned (OpenSpec.ofChange fnNotedSpec)

/-- ITS FALSE NEIGHBOUR: 'it returns false'. Refute it at one input. -/
def fnNotedWrong : ChangeSpec := { name := "fnNoted", fn := fun _ => fun
  | [d1, d2] => { results := [.lit (.bool false)], args := [d1, d2] }
  | _ => none }
def FnNotedWrongFalsely : Prop := fnNotedRow.holds Try.pinned (OpenSpec.ofChange fnNotedWrong)

/-- 'laws.FnExactGoodTraces': WHATEVER THE INPUT: true; the input reads as it did. -/
def fnExactGoodTracesSpec : ChangeSpec := { name := "fnExactGoodTraces", fn := fun _ => fun
  | [d1, d2] => { results := [.lit (.bool true)], args := [d1, d2] }
  | _ => none }
def fnExactGoodTracesRow : OpenClaim := { program := "ytngldlconipnnaa", sum := "c14dcead53eb981a2bcf7d78cf42d73dabe673a9be1bddf074c6ac85b00cf8d4", func := "loop.example/g00636/laws.FnExactGoodTraces", spec := "fnExactGoodTraces", unfollowed := true, recurses := true, apart := false }
def FnExactGoodTracesSaid : Prop := fnExactGoodTracesRow.holds Try.pinned (OpenSpec.ofChange fnExactGoodTracesSpec)

/-- ITS FALSE NEIGHBOUR: 'it returns false'. Refute it at one input. -/
def fnExactGoodTracesWrong : ChangeSpec := { name := "fnExactGoodTraces", fn := fun _ => fun
  | [d1, d2] => { results := [.lit (.bool false)], args := [d1, d2] }
  | _ => none }
def FnExactGoodTracesWrongFalsely : Prop := fnExactGoodTracesRow.holds Try.pinned (OpenSpec.ofChange fnExactGoodTracesWrong)

/-- 'laws.FnExactFindTrace': WHATEVER THE INPUT: true; the input reads as it did. -/
def fnExactFindTraceSpec : ChangeSpec := { name := "fnExactFindTrace", fn := fun _ => fun
  | [d1, d2, d3, d4] => { results := [.lit (.bool true)], args := [d1, d2, d3, d4] }
  | _ => none }
def fnExactFindTraceRow : OpenClaim := { program := "ytngldlconipnnaa", sum := "c14dcead53eb981a2bcf7d78cf42d73dabe673a9be1bddf074c6ac85b00cf8d4", func := "loop.example/g00636/laws.FnExactFindTrace", spec := "fnExactFindTrace", unfollowed := true, recurses := true, apart := false }
def FnExactFindTraceSaid : Prop := fnExactFindTraceRow.holds Try.pinned (OpenSpec.ofChange fnExactFindTraceSpec)

/-- ITS FALSE NEIGHBOUR: 'it returns false'. Refute it at one input. -/
def fnExactFindTraceWrong : ChangeSpec := { name := "fnExactFindTrace", fn := fun _ => fun
  | [d1, d2, d3, d4] => { results := [.lit (.bool false)], args := [d1, d2, d3, d4] }
  | _ => none }
def FnExactFindTraceWrongFalsely : Prop := fnExactFindTraceRow.holds Try.pinned (OpenSpec.ofChange fnExactFindTraceWrong)

/-- 'laws.FnExactTracesFor': WHATEVER THE INPUT: true; the input reads as it did. -/
def fnExactTracesForSpec : ChangeSpec := { name := "fnExactTracesFor", fn := fun _ => fun
  | [d1, d2, d3] => { results := [.lit (.bool true)], args := [d1, d2, d3] }
  | _ => none }
def fnExactTracesForRow : OpenClaim := { program := "ytngldlconipnnaa", sum := "c14dcead53eb981a2bcf7d78cf42d73dabe673a9be1bddf074c6ac85b00cf8d4", func := "loop.example/g00636/laws.FnExactTracesFor", spec := "fnExactTracesFor", unfollowed := true, recurses := true, apart := false }
def FnExactTracesForSaid : Prop := fnExactTracesForRow.holds Try.pinned (OpenSpec.ofChange fnExactTracesForSpec)

/-- ITS FALSE NEIGHBOUR: 'it returns false'. Refute it at one input. -/
def fnExactTracesForWrong : ChangeSpec := { name := "fnExactTracesFor", fn := fun _ => fun
  | [d1, d2, d3] => { results := [.lit (.bool false)], args := [d1, d2, d3] }
  | _ => none }
def FnExactTracesForWrongFalsely : Prop := fnExactTracesForRow.holds Try.pinned (OpenSpec.ofChange fnExactTracesForWrong)

/-- 'laws.FnOrder': WHATEVER THE INPUT: true; the input reads as it did. -/
def fnOrderSpec : ChangeSpec := { name := "fnOrder", fn := fun _ => fun
  | [d1, d2] => { results := [.lit (.bool true)], args := [d1, d2] }
  | _ => none }
def fnOrderRow : OpenClaim := { program := "ytngldlconipnnaa", sum := "c14dcead53eb981a2bcf7d78cf42d73dabe673a9be1bddf074c6ac85b00cf8d4", func := "loop.example/g00636/laws.FnOrder", spec := "fnOrder", unfollowed := true, recurses := true, apart := false }
def FnOrderSaid : Prop := fnOrderRow.holds Try.pinned (OpenSpec.ofChange fnOrderSpec)

/-- ITS FALSE NEIGHBOUR: 'it returns false'. Refute it at one input. -/
def fnOrderWrong : ChangeSpec := { name := "fnOrder", fn := fun _ => fun
  | [d1, d2] => { results := [.lit (.bool false)], args := [d1, d2] }
  | _ => none }
def FnOrderWrongFalsely : Prop := fnOrderRow.holds Try.pinned (OpenSpec.ofChange fnOrderWrong)

/- THE SECOND FORM. 'bulk': how many values and letters a reading holds, each counted each time it is reached (what is shared counts as often as it is met; a slice's spare places count too). A statement '..UptoSaid' is the law's where the arguments, and the package variables that the reading takes, are together of bulk at most 1048576: NARROWER than '..Said'. Prove '..Said' where nothing that the law and all that it calls make is longer than what came in: it says more and counts as full. Else prove '..UptoSaid'. A law counts once. -/
mutual
def uptoBulk {H : Type} : DataW H → Nat
  | .lit (.string bytes) => bytes.length + 1
  | .lit _ => 1
  | .nil => 1
  | .ptr d => uptoBulk d + 1
  | .slice elems spare => uptoBulkAll elems + uptoBulkAll spare + 1
  | .agg parts => uptoBulkAll parts + 1
  | .iface _ d => uptoBulk d + 1
  | .map entries => uptoBulkEntries entries + 1
  | .held _ => 1
def uptoBulkAll {H : Type} : List (DataW H) → Nat
  | [] => 0
  | d :: r => uptoBulk d + uptoBulkAll r
def uptoBulkEntries {H : Type} : List (Lit × DataW H) → Nat
  | [] => 0
  | x :: r => uptoBulkEntry x + uptoBulkEntries r
def uptoBulkEntry {H : Type} : Lit × DataW H → Nat
  | (.string bytes, d) => bytes.length + uptoBulk d + 1
  | (_, d) => uptoBulk d + 1
 end
def uptoSmall : (H : Type) → List (DataW H) → Bool := fun _ ds => decide (uptoBulkAll ds ≤ 1048576)
def OpenSpec.upto (s : _root_.Go.ChangeSpec) : _root_.Go.OpenSpec := { _root_.Go.OpenSpec.ofChange s with cond := some uptoSmall }

/-- 'laws.FnNoted', WHERE WHAT IT READS IS OF BULK AT MOST 1048576: true; the input reads as it did. -/
def fnNotedUptoRow : OpenClaim := { program := "ytngldlconipnnaa", sum := "c14dcead53eb981a2bcf7d78cf42d73dabe673a9be1bddf074c6ac85b00cf8d4", func := "loop.example/g00636/laws.FnNoted", spec := "fnNoted", unfollowed := true, recurses := true, apart := false, narrowed := true }
def FnNotedUptoSaid : Prop := fnNotedUptoRow.holds Try.pinned (OpenSpec.upto fnNotedSpec)

/-- 'laws.FnExactGoodTraces', WHERE WHAT IT READS IS OF BULK AT MOST 1048576: true; the input reads as it did. -/
def fnExactGoodTracesUptoRow : OpenClaim := { program := "ytngldlconipnnaa", sum := "c14dcead53eb981a2bcf7d78cf42d73dabe673a9be1bddf074c6ac85b00cf8d4", func := "loop.example/g00636/laws.FnExactGoodTraces", spec := "fnExactGoodTraces", unfollowed := true, recurses := true, apart := false, narrowed := true }
def FnExactGoodTracesUptoSaid : Prop := fnExactGoodTracesUptoRow.holds Try.pinned (OpenSpec.upto fnExactGoodTracesSpec)

/-- 'laws.FnExactFindTrace', WHERE WHAT IT READS IS OF BULK AT MOST 1048576: true; the input reads as it did. -/
def fnExactFindTraceUptoRow : OpenClaim := { program := "ytngldlconipnnaa", sum := "c14dcead53eb981a2bcf7d78cf42d73dabe673a9be1bddf074c6ac85b00cf8d4", func := "loop.example/g00636/laws.FnExactFindTrace", spec := "fnExactFindTrace", unfollowed := true, recurses := true, apart := false, narrowed := true }
def FnExactFindTraceUptoSaid : Prop := fnExactFindTraceUptoRow.holds Try.pinned (OpenSpec.upto fnExactFindTraceSpec)

/-- 'laws.FnExactTracesFor', WHERE WHAT IT READS IS OF BULK AT MOST 1048576: true; the input reads as it did. -/
def fnExactTracesForUptoRow : OpenClaim := { program := "ytngldlconipnnaa", sum := "c14dcead53eb981a2bcf7d78cf42d73dabe673a9be1bddf074c6ac85b00cf8d4", func := "loop.example/g00636/laws.FnExactTracesFor", spec := "fnExactTracesFor", unfollowed := true, recurses := true, apart := false, narrowed := true }
def FnExactTracesForUptoSaid : Prop := fnExactTracesForUptoRow.holds Try.pinned (OpenSpec.upto fnExactTracesForSpec)

/-- 'laws.FnOrder', WHERE WHAT IT READS IS OF BULK AT MOST 1048576: true; the input reads as it did. -/
def fnOrderUptoRow : OpenClaim := { program := "ytngldlconipnnaa", sum := "c14dcead53eb981a2bcf7d78cf42d73dabe673a9be1bddf074c6ac85b00cf8d4", func := "loop.example/g00636/laws.FnOrder", spec := "fnOrder", unfollowed := true, recurses := true, apart := false, narrowed := true }
def FnOrderUptoSaid : Prop := fnOrderUptoRow.holds Try.pinned (OpenSpec.upto fnOrderSpec)

end Rows
end Go.Proofs.Ytngldlconipnnaa
