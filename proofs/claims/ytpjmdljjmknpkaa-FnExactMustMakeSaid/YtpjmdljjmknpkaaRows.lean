/-
  No cell of these rows narrows 'for every input' (looked for: loops, veiled, ifaces, maps, wideKeys, modest, calm, conditions, laid).
  DERIVED. THE GIVEN ROWS OF THIS SEAT. 12 by the template 'for every input the law returns true; each argument reads behind the call as it read before'; 0 by the template 'total and deterministic' (their statements: YtpjmdljjmknpkaaTotals.lean).
  GIVEN WITH THE SEED: the statements are not yours to turn. If you find one false, say at which input.
  Laid BY PROGRAM, IN A SANDBOX (cutbox-rows.mjs): the forced cells as the released guide's own fill.sh prints them over the translation 5760af5b9b46ae94… (all of the seat's roots in one cut). By AI agents, Wed Nov 11 2026. No macro, syntax, notation, axiom, sorry.
-/
import Derived.Test.YtpjmdljjmknpkaaChecked
import GoSem.Claim
import GoSem.ClaimJoined
import GoSem.ClaimMapViews
import Derived.JoinedTies
import Derived.KernelRfl
namespace Go.Proofs.Ytpjmdljjmknpkaa
/- THE CELL 'sum', in the pinned program and in every row, IS THE sha256 OF THE DUMP (.gsa) THAT YtpjmdljjmknpkaaProg.lean LOADS. Nothing in Lean hashes anything: it is a label: what it is worth is what the hold of that sum in a sandbox is worth. -/
noncomputable def Try.pinned : Pinned := { name := "ytpjmdljjmknpkaa", sum := "5760af5b9b46ae945cbc9a41d4d8f60e26acefd3662d13046a0569fa7c20806a", checked := Try.checked }
namespace Rows
def none {H : Type} : Left H := { results := [], args := [] }

/-- 'laws.FnOrder': WHATEVER THE INPUT: true; the input reads as it did. -/
def fnOrderSpec : ChangeSpec := { name := "fnOrder", fn := fun _ => fun
  | [d1, d2] => { results := [.lit (.bool true)], args := [d1, d2] }
  | _ => none }
def fnOrderRow : OpenClaim := { program := "ytpjmdljjmknpkaa", sum := "5760af5b9b46ae945cbc9a41d4d8f60e26acefd3662d13046a0569fa7c20806a", func := "loop.example/g00636/laws.FnOrder", spec := "fnOrder", unfollowed := true, recurses := true, apart := false }
def FnOrderSaid : Prop := fnOrderRow.holds Try.pinned (OpenSpec.ofChange fnOrderSpec)

/-- ITS FALSE NEIGHBOUR: 'it returns false'. Refute it at one input. -/
def fnOrderWrong : ChangeSpec := { name := "fnOrder", fn := fun _ => fun
  | [d1, d2] => { results := [.lit (.bool false)], args := [d1, d2] }
  | _ => none }
def FnOrderWrongFalsely : Prop := fnOrderRow.holds Try.pinned (OpenSpec.ofChange fnOrderWrong)

/-- 'laws.FnLoops': WHATEVER THE INPUT: true; the input reads as it did. -/
def fnLoopsSpec : ChangeSpec := { name := "fnLoops", fn := fun _ => fun
  | [d1, d2] => { results := [.lit (.bool true)], args := [d1, d2] }
  | _ => none }
def fnLoopsRow : OpenClaim := { program := "ytpjmdljjmknpkaa", sum := "5760af5b9b46ae945cbc9a41d4d8f60e26acefd3662d13046a0569fa7c20806a", func := "loop.example/g00636/laws.FnLoops", spec := "fnLoops", unfollowed := true, recurses := true, apart := false }
def FnLoopsSaid : Prop := fnLoopsRow.holds Try.pinned (OpenSpec.ofChange fnLoopsSpec)

/-- ITS FALSE NEIGHBOUR: 'it returns false'. Refute it at one input. -/
def fnLoopsWrong : ChangeSpec := { name := "fnLoops", fn := fun _ => fun
  | [d1, d2] => { results := [.lit (.bool false)], args := [d1, d2] }
  | _ => none }
def FnLoopsWrongFalsely : Prop := fnLoopsRow.holds Try.pinned (OpenSpec.ofChange fnLoopsWrong)

/-- 'laws.FnTouched': WHATEVER THE INPUT: true; the input reads as it did. -/
def fnTouchedSpec : ChangeSpec := { name := "fnTouched", fn := fun _ => fun
  | [d1, d2] => { results := [.lit (.bool true)], args := [d1, d2] }
  | _ => none }
def fnTouchedRow : OpenClaim := { program := "ytpjmdljjmknpkaa", sum := "5760af5b9b46ae945cbc9a41d4d8f60e26acefd3662d13046a0569fa7c20806a", func := "loop.example/g00636/laws.FnTouched", spec := "fnTouched", unfollowed := true, recurses := true, apart := false }
def FnTouchedSaid : Prop := fnTouchedRow.holds Try.pinned (OpenSpec.ofChange fnTouchedSpec)

/-- ITS FALSE NEIGHBOUR: 'it returns false'. Refute it at one input. -/
def fnTouchedWrong : ChangeSpec := { name := "fnTouched", fn := fun _ => fun
  | [d1, d2] => { results := [.lit (.bool false)], args := [d1, d2] }
  | _ => none }
def FnTouchedWrongFalsely : Prop := fnTouchedRow.holds Try.pinned (OpenSpec.ofChange fnTouchedWrong)

/-- 'laws.FnLevels': WHATEVER THE INPUT: true; the input reads as it did. -/
def fnLevelsSpec : ChangeSpec := { name := "fnLevels", fn := fun _ => fun
  | [d1, d2] => { results := [.lit (.bool true)], args := [d1, d2] }
  | _ => none }
def fnLevelsRow : OpenClaim := { program := "ytpjmdljjmknpkaa", sum := "5760af5b9b46ae945cbc9a41d4d8f60e26acefd3662d13046a0569fa7c20806a", func := "loop.example/g00636/laws.FnLevels", spec := "fnLevels", unfollowed := true, recurses := true, apart := false }
def FnLevelsSaid : Prop := fnLevelsRow.holds Try.pinned (OpenSpec.ofChange fnLevelsSpec)

/-- ITS FALSE NEIGHBOUR: 'it returns false'. Refute it at one input. -/
def fnLevelsWrong : ChangeSpec := { name := "fnLevels", fn := fun _ => fun
  | [d1, d2] => { results := [.lit (.bool false)], args := [d1, d2] }
  | _ => none }
def FnLevelsWrongFalsely : Prop := fnLevelsRow.holds Try.pinned (OpenSpec.ofChange fnLevelsWrong)

/-- 'laws.FnExactAddNeed': WHATEVER THE INPUT: true; the input reads as it did. -/
def fnExactAddNeedSpec : ChangeSpec := { name := "fnExactAddNeed", fn := fun _ => fun
  | [d1, d2, d3] => { results := [.lit (.bool true)], args := [d1, d2, d3] }
  | _ => none }
def fnExactAddNeedRow : OpenClaim := { program := "ytpjmdljjmknpkaa", sum := "5760af5b9b46ae945cbc9a41d4d8f60e26acefd3662d13046a0569fa7c20806a", func := "loop.example/g00636/laws.FnExactAddNeed", spec := "fnExactAddNeed", unfollowed := true, recurses := true, apart := false }
def FnExactAddNeedSaid : Prop := fnExactAddNeedRow.holds Try.pinned (OpenSpec.ofChange fnExactAddNeedSpec)

/-- ITS FALSE NEIGHBOUR: 'it returns false'. Refute it at one input. -/
def fnExactAddNeedWrong : ChangeSpec := { name := "fnExactAddNeed", fn := fun _ => fun
  | [d1, d2, d3] => { results := [.lit (.bool false)], args := [d1, d2, d3] }
  | _ => none }
def FnExactAddNeedWrongFalsely : Prop := fnExactAddNeedRow.holds Try.pinned (OpenSpec.ofChange fnExactAddNeedWrong)

/-- 'laws.FnExactTouchedBy': WHATEVER THE INPUT: true; the input reads as it did. -/
def fnExactTouchedBySpec : ChangeSpec := { name := "fnExactTouchedBy", fn := fun _ => fun
  | [d1, d2] => { results := [.lit (.bool true)], args := [d1, d2] }
  | _ => none }
def fnExactTouchedByRow : OpenClaim := { program := "ytpjmdljjmknpkaa", sum := "5760af5b9b46ae945cbc9a41d4d8f60e26acefd3662d13046a0569fa7c20806a", func := "loop.example/g00636/laws.FnExactTouchedBy", spec := "fnExactTouchedBy", unfollowed := true, recurses := true, apart := false }
def FnExactTouchedBySaid : Prop := fnExactTouchedByRow.holds Try.pinned (OpenSpec.ofChange fnExactTouchedBySpec)

/-- ITS FALSE NEIGHBOUR: 'it returns false'. Refute it at one input. -/
def fnExactTouchedByWrong : ChangeSpec := { name := "fnExactTouchedBy", fn := fun _ => fun
  | [d1, d2] => { results := [.lit (.bool false)], args := [d1, d2] }
  | _ => none }
def FnExactTouchedByWrongFalsely : Prop := fnExactTouchedByRow.holds Try.pinned (OpenSpec.ofChange fnExactTouchedByWrong)

/-- 'laws.FnExactNeededFor': WHATEVER THE INPUT: true; the input reads as it did. -/
def fnExactNeededForSpec : ChangeSpec := { name := "fnExactNeededFor", fn := fun _ => fun
  | [d1, d2] => { results := [.lit (.bool true)], args := [d1, d2] }
  | _ => none }
def fnExactNeededForRow : OpenClaim := { program := "ytpjmdljjmknpkaa", sum := "5760af5b9b46ae945cbc9a41d4d8f60e26acefd3662d13046a0569fa7c20806a", func := "loop.example/g00636/laws.FnExactNeededFor", spec := "fnExactNeededFor", unfollowed := true, recurses := true, apart := false }
def FnExactNeededForSaid : Prop := fnExactNeededForRow.holds Try.pinned (OpenSpec.ofChange fnExactNeededForSpec)

/-- ITS FALSE NEIGHBOUR: 'it returns false'. Refute it at one input. -/
def fnExactNeededForWrong : ChangeSpec := { name := "fnExactNeededFor", fn := fun _ => fun
  | [d1, d2] => { results := [.lit (.bool false)], args := [d1, d2] }
  | _ => none }
def FnExactNeededForWrongFalsely : Prop := fnExactNeededForRow.holds Try.pinned (OpenSpec.ofChange fnExactNeededForWrong)

/-- 'laws.FnExactMustMake': WHATEVER THE INPUT: true; the input reads as it did. -/
def fnExactMustMakeSpec : ChangeSpec := { name := "fnExactMustMake", fn := fun _ => fun
  | [d1, d2, d3] => { results := [.lit (.bool true)], args := [d1, d2, d3] }
  | _ => none }
def fnExactMustMakeRow : OpenClaim := { program := "ytpjmdljjmknpkaa", sum := "5760af5b9b46ae945cbc9a41d4d8f60e26acefd3662d13046a0569fa7c20806a", func := "loop.example/g00636/laws.FnExactMustMake", spec := "fnExactMustMake", unfollowed := true, recurses := true, apart := false }
def FnExactMustMakeSaid : Prop := fnExactMustMakeRow.holds Try.pinned (OpenSpec.ofChange fnExactMustMakeSpec)

/-- ITS FALSE NEIGHBOUR: 'it returns false'. Refute it at one input. -/
def fnExactMustMakeWrong : ChangeSpec := { name := "fnExactMustMake", fn := fun _ => fun
  | [d1, d2, d3] => { results := [.lit (.bool false)], args := [d1, d2, d3] }
  | _ => none }
def FnExactMustMakeWrongFalsely : Prop := fnExactMustMakeRow.holds Try.pinned (OpenSpec.ofChange fnExactMustMakeWrong)

/-- 'laws.FnExactLevelsOf': WHATEVER THE INPUT: true; the input reads as it did. -/
def fnExactLevelsOfSpec : ChangeSpec := { name := "fnExactLevelsOf", fn := fun _ => fun
  | [d] => { results := [.lit (.bool true)], args := [d] }
  | _ => none }
def fnExactLevelsOfRow : OpenClaim := { program := "ytpjmdljjmknpkaa", sum := "5760af5b9b46ae945cbc9a41d4d8f60e26acefd3662d13046a0569fa7c20806a", func := "loop.example/g00636/laws.FnExactLevelsOf", spec := "fnExactLevelsOf", apart := false }
def FnExactLevelsOfSaid : Prop := fnExactLevelsOfRow.holds Try.pinned (OpenSpec.ofChange fnExactLevelsOfSpec)

/-- ITS FALSE NEIGHBOUR: 'it returns false'. Refute it at one input. -/
def fnExactLevelsOfWrong : ChangeSpec := { name := "fnExactLevelsOf", fn := fun _ => fun
  | [d] => { results := [.lit (.bool false)], args := [d] }
  | _ => none }
def FnExactLevelsOfWrongFalsely : Prop := fnExactLevelsOfRow.holds Try.pinned (OpenSpec.ofChange fnExactLevelsOfWrong)

/-- 'laws.FnExactReadyWith': WHATEVER THE INPUT: true; the input reads as it did. -/
def fnExactReadyWithSpec : ChangeSpec := { name := "fnExactReadyWith", fn := fun _ => fun
  | [d1, d2] => { results := [.lit (.bool true)], args := [d1, d2] }
  | _ => none }
def fnExactReadyWithRow : OpenClaim := { program := "ytpjmdljjmknpkaa", sum := "5760af5b9b46ae945cbc9a41d4d8f60e26acefd3662d13046a0569fa7c20806a", func := "loop.example/g00636/laws.FnExactReadyWith", spec := "fnExactReadyWith", unfollowed := true, recurses := true, apart := false }
def FnExactReadyWithSaid : Prop := fnExactReadyWithRow.holds Try.pinned (OpenSpec.ofChange fnExactReadyWithSpec)

/-- ITS FALSE NEIGHBOUR: 'it returns false'. Refute it at one input. -/
def fnExactReadyWithWrong : ChangeSpec := { name := "fnExactReadyWith", fn := fun _ => fun
  | [d1, d2] => { results := [.lit (.bool false)], args := [d1, d2] }
  | _ => none }
def FnExactReadyWithWrongFalsely : Prop := fnExactReadyWithRow.holds Try.pinned (OpenSpec.ofChange fnExactReadyWithWrong)

/-- 'laws.FnExactWaysTo': WHATEVER THE INPUT: true; the input reads as it did. -/
def fnExactWaysToSpec : ChangeSpec := { name := "fnExactWaysTo", fn := fun _ => fun
  | [d1, d2, d3] => { results := [.lit (.bool true)], args := [d1, d2, d3] }
  | _ => none }
def fnExactWaysToRow : OpenClaim := { program := "ytpjmdljjmknpkaa", sum := "5760af5b9b46ae945cbc9a41d4d8f60e26acefd3662d13046a0569fa7c20806a", func := "loop.example/g00636/laws.FnExactWaysTo", spec := "fnExactWaysTo", apart := false }
def FnExactWaysToSaid : Prop := fnExactWaysToRow.holds Try.pinned (OpenSpec.ofChange fnExactWaysToSpec)

/-- ITS FALSE NEIGHBOUR: 'it returns false'. Refute it at one input. -/
def fnExactWaysToWrong : ChangeSpec := { name := "fnExactWaysTo", fn := fun _ => fun
  | [d1, d2, d3] => { results := [.lit (.bool false)], args := [d1, d2, d3] }
  | _ => none }
def FnExactWaysToWrongFalsely : Prop := fnExactWaysToRow.holds Try.pinned (OpenSpec.ofChange fnExactWaysToWrong)

/-- 'laws.FnExactIsClosed': WHATEVER THE INPUT: true; the input reads as it did. -/
def fnExactIsClosedSpec : ChangeSpec := { name := "fnExactIsClosed", fn := fun _ => fun
  | [d1, d2] => { results := [.lit (.bool true)], args := [d1, d2] }
  | _ => none }
def fnExactIsClosedRow : OpenClaim := { program := "ytpjmdljjmknpkaa", sum := "5760af5b9b46ae945cbc9a41d4d8f60e26acefd3662d13046a0569fa7c20806a", func := "loop.example/g00636/laws.FnExactIsClosed", spec := "fnExactIsClosed", unfollowed := true, recurses := true, apart := false }
def FnExactIsClosedSaid : Prop := fnExactIsClosedRow.holds Try.pinned (OpenSpec.ofChange fnExactIsClosedSpec)

/-- ITS FALSE NEIGHBOUR: 'it returns false'. Refute it at one input. -/
def fnExactIsClosedWrong : ChangeSpec := { name := "fnExactIsClosed", fn := fun _ => fun
  | [d1, d2] => { results := [.lit (.bool false)], args := [d1, d2] }
  | _ => none }
def FnExactIsClosedWrongFalsely : Prop := fnExactIsClosedRow.holds Try.pinned (OpenSpec.ofChange fnExactIsClosedWrong)

/- THE SECOND FORM. 'bulk': how many values and letters a reading holds, each counted each time it is reached (what is shared counts as often as it is met; a slice's spare places count too). A statement '..UptoSaid' is the law's where the arguments, and the package variables that the reading takes, are together of bulk at most 1048576: NARROWER than '..Said'. Prove '..Said' where nothing that the law and all that it calls make is longer than what came in: it says more and counts as full. Else prove '..UptoSaid'. A law counts once. -/
mutual
def uptoBulk {H : Type} : DataW H → Nat
  | .lit (.string bytes) => bytes.length + 1
  | .lit _ => 1
  | .nil => 1
  | .ptr d => uptoBulk d + 1
  | .slice elems spare => uptoBulkAll elems + uptoBulkAll spare + 1
  | .agg parts => uptoBulkAll parts + 1
  | .iface _ d => uptoBulk d + 1
  | .map entries => uptoBulkEntries entries + 1
  | .held _ => 1
def uptoBulkAll {H : Type} : List (DataW H) → Nat
  | [] => 0
  | d :: r => uptoBulk d + uptoBulkAll r
def uptoBulkEntries {H : Type} : List (Lit × DataW H) → Nat
  | [] => 0
  | x :: r => uptoBulkEntry x + uptoBulkEntries r
def uptoBulkEntry {H : Type} : Lit × DataW H → Nat
  | (.string bytes, d) => bytes.length + uptoBulk d + 1
  | (_, d) => uptoBulk d + 1
 end
def uptoSmall : (H : Type) → List (DataW H) → Bool := fun _ ds => decide (uptoBulkAll ds ≤ 1048576)
def OpenSpec.upto (s : _root_.Go.ChangeSpec) : _root_.Go.OpenSpec := { _root_.Go.OpenSpec.ofChange s with cond := some uptoSmall }

/-- 'laws.FnOrder', WHERE WHAT IT READS IS OF BULK AT MOST 1048576: true; the input reads as it did. -/
def fnOrderUptoRow : OpenClaim := { program := "ytpjmdljjmknpkaa", sum := "5760af5b9b46ae945cbc9a41d4d8f60e26acefd3662d13046a0569fa7c20806a", func := "loop.example/g00636/laws.FnOrder", spec := "fnOrder", unfollowed := true, recurses := true, apart := false, narrowed := true }
def FnOrderUptoSaid : Prop := fnOrderUptoRow.holds Try.pinned (OpenSpec.upto fnOrderSpec)

/-- 'laws.FnLoops', WHERE WHAT IT READS IS OF BULK AT MOST 1048576: true; the input reads as it did. -/
def fnLoopsUptoRow : OpenClaim := { program := "ytpjmdljjmknpkaa", sum := "5760af5b9b46ae945cbc9a41d4d8f60e26acefd3662d13046a0569fa7c20806a", func := "loop.example/g00636/laws.FnLoops", spec := "fnLoops", unfollowed := true, recurses := true, apart := false, narrowed := true }
def FnLoopsUptoSaid : Prop := fnLoopsUptoRow.holds Try.pinned (OpenSpec.upto fnLoopsSpec)

/-- 'laws.FnTouched', WHERE WHAT IT READS IS OF BULK AT MOST 1048576: true; the input reads as it did. -/
def fnTouchedUptoRow : OpenClaim := { program := "ytpjmdljjmknpkaa", sum := "5760af5b9b46ae945cbc9a41d4d8f60e26acefd3662d13046a0569fa7c20806a", func := "loop.example/g00636/laws.FnTouched", spec := "fnTouched", unfollowed := true, recurses := true, apart := false, narrowed := true }
def FnTouchedUptoSaid : Prop := fnTouchedUptoRow.holds Try.pinned (OpenSpec.upto fnTouchedSpec)

/-- 'laws.FnLevels', WHERE WHAT IT READS IS OF BULK AT MOST 1048576: true; the input reads as it did. -/
def fnLevelsUptoRow : OpenClaim := { program := "ytpjmdljjmknpkaa", sum := "5760af5b9b46ae945cbc9a41d4d8f60e26acefd3662d13046a0569fa7c20806a", func := "loop.example/g00636/laws.FnLevels", spec := "fnLevels", unfollowed := true, recurses := true, apart := false, narrowed := true }
def FnLevelsUptoSaid : Prop := fnLevelsUptoRow.holds Try.pinned (OpenSpec.upto fnLevelsSpec)

/-- 'laws.FnExactAddNeed', WHERE WHAT IT READS IS OF BULK AT MOST 1048576: true; the input reads as it did. -/
def fnExactAddNeedUptoRow : OpenClaim := { program := "ytpjmdljjmknpkaa", sum := "5760af5b9b46ae945cbc9a41d4d8f60e26acefd3662d13046a0569fa7c20806a", func := "loop.example/g00636/laws.FnExactAddNeed", spec := "fnExactAddNeed", unfollowed := true, recurses := true, apart := false, narrowed := true }
def FnExactAddNeedUptoSaid : Prop := fnExactAddNeedUptoRow.holds Try.pinned (OpenSpec.upto fnExactAddNeedSpec)

/-- 'laws.FnExactTouchedBy', WHERE WHAT IT READS IS OF BULK AT MOST 1048576: true; the input reads as it did. -/
def fnExactTouchedByUptoRow : OpenClaim := { program := "ytpjmdljjmknpkaa", sum := "5760af5b9b46ae945cbc9a41d4d8f60e26acefd3662d13046a0569fa7c20806a", func := "loop.example/g00636/laws.FnExactTouchedBy", spec := "fnExactTouchedBy", unfollowed := true, recurses := true, apart := false, narrowed := true }
def FnExactTouchedByUptoSaid : Prop := fnExactTouchedByUptoRow.holds Try.pinned (OpenSpec.upto fnExactTouchedBySpec)

/-- 'laws.FnExactNeededFor', WHERE WHAT IT READS IS OF BULK AT MOST 1048576: true; the input reads as it did. -/
def fnExactNeededForUptoRow : OpenClaim := { program := "ytpjmdljjmknpkaa", sum := "5760af5b9b46ae945cbc9a41d4d8f60e26acefd3662d13046a0569fa7c20806a", func := "loop.example/g00636/laws.FnExactNeededFor", spec := "fnExactNeededFor", unfollowed := true, recurses := true, apart := false, narrowed := true }
def FnExactNeededForUptoSaid : Prop := fnExactNeededForUptoRow.holds Try.pinned (OpenSpec.upto fnExactNeededForSpec)

/-- 'laws.FnExactMustMake', WHERE WHAT IT READS IS OF BULK AT MOST 1048576: true; the input reads as it did. -/
def fnExactMustMakeUptoRow : OpenClaim := { program := "ytpjmdljjmknpkaa", sum := "5760af5b9b46ae945cbc9a41d4d8f60e26acefd3662d13046a0569fa7c20806a", func := "loop.example/g00636/laws.FnExactMustMake", spec := "fnExactMustMake", unfollowed := true, recurses := true, apart := false, narrowed := true }
def FnExactMustMakeUptoSaid : Prop := fnExactMustMakeUptoRow.holds Try.pinned (OpenSpec.upto fnExactMustMakeSpec)

/-- 'laws.FnExactLevelsOf', WHERE WHAT IT READS IS OF BULK AT MOST 1048576: true; the input reads as it did. -/
def fnExactLevelsOfUptoRow : OpenClaim := { program := "ytpjmdljjmknpkaa", sum := "5760af5b9b46ae945cbc9a41d4d8f60e26acefd3662d13046a0569fa7c20806a", func := "loop.example/g00636/laws.FnExactLevelsOf", spec := "fnExactLevelsOf", apart := false, narrowed := true }
def FnExactLevelsOfUptoSaid : Prop := fnExactLevelsOfUptoRow.holds Try.pinned (OpenSpec.upto fnExactLevelsOfSpec)

/-- 'laws.FnExactReadyWith', WHERE WHAT IT READS IS OF BULK AT MOST 1048576: true; the input reads as it did. -/
def fnExactReadyWithUptoRow : OpenClaim := { program := "ytpjmdljjmknpkaa", sum := "5760af5b9b46ae945cbc9a41d4d8f60e26acefd3662d13046a0569fa7c20806a", func := "loop.example/g00636/laws.FnExactReadyWith", spec := "fnExactReadyWith", unfollowed := true, recurses := true, apart := false, narrowed := true }
def FnExactReadyWithUptoSaid : Prop := fnExactReadyWithUptoRow.holds Try.pinned (OpenSpec.upto fnExactReadyWithSpec)

/-- 'laws.FnExactWaysTo', WHERE WHAT IT READS IS OF BULK AT MOST 1048576: true; the input reads as it did. -/
def fnExactWaysToUptoRow : OpenClaim := { program := "ytpjmdljjmknpkaa", sum := "5760af5b9b46ae945cbc9a41d4d8f60e26acefd3662d13046a0569fa7c20806a", func := "loop.example/g00636/laws.FnExactWaysTo", spec := "fnExactWaysTo", apart := false, narrowed := true }
def FnExactWaysToUptoSaid : Prop := fnExactWaysToUptoRow.holds Try.pinned (OpenSpec.upto fnExactWaysToSpec)

/-- 'laws.FnExactIsClosed', WHERE WHAT IT READS IS OF BULK AT MOST 1048576: true; the input reads as it did. -/
def fnExactIsClosedUptoRow : OpenClaim := { program := "ytpjmdljjmknpkaa", sum := "5760af5b9b46ae945cbc9a41d4d8f60e26acefd3662d13046a0569fa7c20806a", func := "loop.example/g00636/laws.FnExactIsClosed", spec := "fnExactIsClosed", unfollowed := true, recurses := true, apart := false, narrowed := true }
def FnExactIsClosedUptoSaid : Prop := fnExactIsClosedUptoRow.holds Try.pinned (OpenSpec.upto fnExactIsClosedSpec)

end Rows
end Go.Proofs.Ytpjmdljjmknpkaa
