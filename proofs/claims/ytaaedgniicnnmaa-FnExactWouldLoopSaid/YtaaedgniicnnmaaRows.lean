/-
  No cell of these rows narrows 'for every input' (looked for: loops, veiled, ifaces, maps, wideKeys, modest, calm, conditions, laid).
  DERIVED. THE GIVEN ROWS OF THIS SEAT. 9 by the template 'for every input the law returns true; each argument reads behind the call as it read before'; 0 by the template 'total and deterministic' (their statements: YtaaedgniicnnmaaTotals.lean).
  GIVEN WITH THE SEED: the statements are not yours to turn. If you find one false, say at which input.
  Laid BY PROGRAM, IN A SANDBOX (cutbox-rows.mjs): the forced cells as the released guide's own fill.sh prints them over the translation 71ba0d74d1b412bb… (all of the seat's roots in one cut). By AI agents, Wed Nov 11 2026. No macro, syntax, notation, axiom, sorry.
-/
import Derived.Test.YtaaedgniicnnmaaChecked
import GoSem.Claim
import GoSem.ClaimJoined
import GoSem.ClaimMapViews
import Derived.JoinedTies
import Derived.KernelRfl
namespace Go.Proofs.Ytaaedgniicnnmaa
/- THE CELL 'sum', in the pinned program and in every row, IS THE sha256 OF THE DUMP (.gsa) THAT YtaaedgniicnnmaaProg.lean LOADS. Nothing in Lean hashes anything: it is a label: what it is worth is what the hold of that sum in a sandbox is worth. -/
noncomputable def Try.pinned : Pinned := { name := "ytaaedgniicnnmaa", sum := "71ba0d74d1b412bb1110b367f15d2f4af5c0d994d8eed3abb930aadeb6a66c12", checked := Try.checked }
namespace Rows
def none {H : Type} : Left H := { results := [], args := [] }

/-- 'laws.FnOrder': WHATEVER THE INPUT: true; the input reads as it did. -/
def fnOrderSpec : ChangeSpec := { name := "fnOrder", fn := fun _ => fun
  | [d1, d2] => { results := [.lit (.bool true)], args := [d1, d2] }
  | _ => none }
def fnOrderRow : OpenClaim := { program := "ytaaedgniicnnmaa", sum := "71ba0d74d1b412bb1110b367f15d2f4af5c0d994d8eed3abb930aadeb6a66c12", func := "loop.example/g00636/laws.FnOrder", spec := "fnOrder", unfollowed := true, recurses := true, apart := false }
def FnOrderSaid : Prop := fnOrderRow.holds Try.pinned (OpenSpec.ofChange fnOrderSpec)

/-- ITS FALSE NEIGHBOUR: 'it returns false'. Refute it at one input. -/
def fnOrderWrong : ChangeSpec := { name := "fnOrder", fn := fun _ => fun
  | [d1, d2] => { results := [.lit (.bool false)], args := [d1, d2] }
  | _ => none }
def FnOrderWrongFalsely : Prop := fnOrderRow.holds Try.pinned (OpenSpec.ofChange fnOrderWrong)

/-- 'laws.FnLoops': WHATEVER THE INPUT: true; the input reads as it did. -/
def fnLoopsSpec : ChangeSpec := { name := "fnLoops", fn := fun _ => fun
  | [d1, d2] => { results := [.lit (.bool true)], args := [d1, d2] }
  | _ => none }
def fnLoopsRow : OpenClaim := { program := "ytaaedgniicnnmaa", sum := "71ba0d74d1b412bb1110b367f15d2f4af5c0d994d8eed3abb930aadeb6a66c12", func := "loop.example/g00636/laws.FnLoops", spec := "fnLoops", unfollowed := true, recurses := true, apart := false }
def FnLoopsSaid : Prop := fnLoopsRow.holds Try.pinned (OpenSpec.ofChange fnLoopsSpec)

/-- ITS FALSE NEIGHBOUR: 'it returns false'. Refute it at one input. -/
def fnLoopsWrong : ChangeSpec := { name := "fnLoops", fn := fun _ => fun
  | [d1, d2] => { results := [.lit (.bool false)], args := [d1, d2] }
  | _ => none }
def FnLoopsWrongFalsely : Prop := fnLoopsRow.holds Try.pinned (OpenSpec.ofChange fnLoopsWrong)

/-- 'laws.FnExactNewGraph': WHATEVER THE INPUT: true; the input reads as it did. -/
def fnExactNewGraphSpec : ChangeSpec := { name := "fnExactNewGraph", fn := fun _ => fun
  | [d] => { results := [.lit (.bool true)], args := [d] }
  | _ => none }
def fnExactNewGraphRow : OpenClaim := { program := "ytaaedgniicnnmaa", sum := "71ba0d74d1b412bb1110b367f15d2f4af5c0d994d8eed3abb930aadeb6a66c12", func := "loop.example/g00636/laws.FnExactNewGraph", spec := "fnExactNewGraph", apart := false }
def FnExactNewGraphSaid : Prop := fnExactNewGraphRow.holds Try.pinned (OpenSpec.ofChange fnExactNewGraphSpec)

/-- ITS FALSE NEIGHBOUR: 'it returns false'. Refute it at one input. -/
def fnExactNewGraphWrong : ChangeSpec := { name := "fnExactNewGraph", fn := fun _ => fun
  | [d] => { results := [.lit (.bool false)], args := [d] }
  | _ => none }
def FnExactNewGraphWrongFalsely : Prop := fnExactNewGraphRow.holds Try.pinned (OpenSpec.ofChange fnExactNewGraphWrong)

/-- 'laws.FnExactGoodGraph': WHATEVER THE INPUT: true; the input reads as it did. -/
def fnExactGoodGraphSpec : ChangeSpec := { name := "fnExactGoodGraph", fn := fun _ => fun
  | [d] => { results := [.lit (.bool true)], args := [d] }
  | _ => none }
def fnExactGoodGraphRow : OpenClaim := { program := "ytaaedgniicnnmaa", sum := "71ba0d74d1b412bb1110b367f15d2f4af5c0d994d8eed3abb930aadeb6a66c12", func := "loop.example/g00636/laws.FnExactGoodGraph", spec := "fnExactGoodGraph", apart := false }
def FnExactGoodGraphSaid : Prop := fnExactGoodGraphRow.holds Try.pinned (OpenSpec.ofChange fnExactGoodGraphSpec)

/-- ITS FALSE NEIGHBOUR: 'it returns false'. Refute it at one input. -/
def fnExactGoodGraphWrong : ChangeSpec := { name := "fnExactGoodGraph", fn := fun _ => fun
  | [d] => { results := [.lit (.bool false)], args := [d] }
  | _ => none }
def FnExactGoodGraphWrongFalsely : Prop := fnExactGoodGraphRow.holds Try.pinned (OpenSpec.ofChange fnExactGoodGraphWrong)

/-- 'laws.FnExactAddNeed': WHATEVER THE INPUT: true; the input reads as it did. -/
def fnExactAddNeedSpec : ChangeSpec := { name := "fnExactAddNeed", fn := fun _ => fun
  | [d1, d2, d3] => { results := [.lit (.bool true)], args := [d1, d2, d3] }
  | _ => none }
def fnExactAddNeedRow : OpenClaim := { program := "ytaaedgniicnnmaa", sum := "71ba0d74d1b412bb1110b367f15d2f4af5c0d994d8eed3abb930aadeb6a66c12", func := "loop.example/g00636/laws.FnExactAddNeed", spec := "fnExactAddNeed", unfollowed := true, recurses := true, apart := false }
def FnExactAddNeedSaid : Prop := fnExactAddNeedRow.holds Try.pinned (OpenSpec.ofChange fnExactAddNeedSpec)

/-- ITS FALSE NEIGHBOUR: 'it returns false'. Refute it at one input. -/
def fnExactAddNeedWrong : ChangeSpec := { name := "fnExactAddNeed", fn := fun _ => fun
  | [d1, d2, d3] => { results := [.lit (.bool false)], args := [d1, d2, d3] }
  | _ => none }
def FnExactAddNeedWrongFalsely : Prop := fnExactAddNeedRow.holds Try.pinned (OpenSpec.ofChange fnExactAddNeedWrong)

/-- 'laws.FnExactDropNeed': WHATEVER THE INPUT: true; the input reads as it did. -/
def fnExactDropNeedSpec : ChangeSpec := { name := "fnExactDropNeed", fn := fun _ => fun
  | [d1, d2, d3] => { results := [.lit (.bool true)], args := [d1, d2, d3] }
  | _ => none }
def fnExactDropNeedRow : OpenClaim := { program := "ytaaedgniicnnmaa", sum := "71ba0d74d1b412bb1110b367f15d2f4af5c0d994d8eed3abb930aadeb6a66c12", func := "loop.example/g00636/laws.FnExactDropNeed", spec := "fnExactDropNeed", apart := false }
def FnExactDropNeedSaid : Prop := fnExactDropNeedRow.holds Try.pinned (OpenSpec.ofChange fnExactDropNeedSpec)

/-- ITS FALSE NEIGHBOUR: 'it returns false'. Refute it at one input. -/
def fnExactDropNeedWrong : ChangeSpec := { name := "fnExactDropNeed", fn := fun _ => fun
  | [d1, d2, d3] => { results := [.lit (.bool false)], args := [d1, d2, d3] }
  | _ => none }
def FnExactDropNeedWrongFalsely : Prop := fnExactDropNeedRow.holds Try.pinned (OpenSpec.ofChange fnExactDropNeedWrong)

/-- 'laws.FnExactPlaceOf': WHATEVER THE INPUT: true; the input reads as it did. -/
def fnExactPlaceOfSpec : ChangeSpec := { name := "fnExactPlaceOf", fn := fun _ => fun
  | [d1, d2] => { results := [.lit (.bool true)], args := [d1, d2] }
  | _ => none }
def fnExactPlaceOfRow : OpenClaim := { program := "ytaaedgniicnnmaa", sum := "71ba0d74d1b412bb1110b367f15d2f4af5c0d994d8eed3abb930aadeb6a66c12", func := "loop.example/g00636/laws.FnExactPlaceOf", spec := "fnExactPlaceOf", apart := false }
def FnExactPlaceOfSaid : Prop := fnExactPlaceOfRow.holds Try.pinned (OpenSpec.ofChange fnExactPlaceOfSpec)

/-- ITS FALSE NEIGHBOUR: 'it returns false'. Refute it at one input. -/
def fnExactPlaceOfWrong : ChangeSpec := { name := "fnExactPlaceOf", fn := fun _ => fun
  | [d1, d2] => { results := [.lit (.bool false)], args := [d1, d2] }
  | _ => none }
def FnExactPlaceOfWrongFalsely : Prop := fnExactPlaceOfRow.holds Try.pinned (OpenSpec.ofChange fnExactPlaceOfWrong)

/-- 'laws.FnExactWouldLoop': WHATEVER THE INPUT: true; the input reads as it did. -/
def fnExactWouldLoopSpec : ChangeSpec := { name := "fnExactWouldLoop", fn := fun _ => fun
  | [d1, d2, d3] => { results := [.lit (.bool true)], args := [d1, d2, d3] }
  | _ => none }
def fnExactWouldLoopRow : OpenClaim := { program := "ytaaedgniicnnmaa", sum := "71ba0d74d1b412bb1110b367f15d2f4af5c0d994d8eed3abb930aadeb6a66c12", func := "loop.example/g00636/laws.FnExactWouldLoop", spec := "fnExactWouldLoop", apart := false }
def FnExactWouldLoopSaid : Prop := fnExactWouldLoopRow.holds Try.pinned (OpenSpec.ofChange fnExactWouldLoopSpec)

/-- ITS FALSE NEIGHBOUR: 'it returns false'. Refute it at one input. -/
def fnExactWouldLoopWrong : ChangeSpec := { name := "fnExactWouldLoop", fn := fun _ => fun
  | [d1, d2, d3] => { results := [.lit (.bool false)], args := [d1, d2, d3] }
  | _ => none }
def FnExactWouldLoopWrongFalsely : Prop := fnExactWouldLoopRow.holds Try.pinned (OpenSpec.ofChange fnExactWouldLoopWrong)

/-- 'laws.FnExactUsersOf': WHATEVER THE INPUT: true; the input reads as it did. -/
def fnExactUsersOfSpec : ChangeSpec := { name := "fnExactUsersOf", fn := fun _ => fun
  | [d1, d2] => { results := [.lit (.bool true)], args := [d1, d2] }
  | _ => none }
def fnExactUsersOfRow : OpenClaim := { program := "ytaaedgniicnnmaa", sum := "71ba0d74d1b412bb1110b367f15d2f4af5c0d994d8eed3abb930aadeb6a66c12", func := "loop.example/g00636/laws.FnExactUsersOf", spec := "fnExactUsersOf", apart := false }
def FnExactUsersOfSaid : Prop := fnExactUsersOfRow.holds Try.pinned (OpenSpec.ofChange fnExactUsersOfSpec)

/-- ITS FALSE NEIGHBOUR: 'it returns false'. Refute it at one input. -/
def fnExactUsersOfWrong : ChangeSpec := { name := "fnExactUsersOf", fn := fun _ => fun
  | [d1, d2] => { results := [.lit (.bool false)], args := [d1, d2] }
  | _ => none }
def FnExactUsersOfWrongFalsely : Prop := fnExactUsersOfRow.holds Try.pinned (OpenSpec.ofChange fnExactUsersOfWrong)

/- THE SECOND FORM. 'bulk': how many values and letters a reading holds, each counted each time it is reached (what is shared counts as often as it is met; a slice's spare places count too). A statement '..UptoSaid' is the law's where the arguments, and the package variables that the reading takes, are together of bulk at most 1048576: NARROWER than '..Said'. Prove '..Said' where nothing that the law and all that it calls make is longer than what came in: it says more and counts as full. Else prove '..UptoSaid'. A law counts once. -/
mutual
def uptoBulk {H : Type} : DataW H → Nat
  | .lit (.string bytes) => bytes.length + 1
  | .lit _ => 1
  | .nil => 1
  | .ptr d => uptoBulk d + 1
  | .slice elems spare => uptoBulkAll elems + uptoBulkAll spare + 1
  | .agg parts => uptoBulkAll parts + 1
  | .iface _ d => uptoBulk d + 1
  | .map entries => uptoBulkEntries entries + 1
  | .held _ => 1
def uptoBulkAll {H : Type} : List (DataW H) → Nat
  | [] => 0
  | d :: r => uptoBulk d + uptoBulkAll r
def uptoBulkEntries {H : Type} : List (Lit × DataW H) → Nat
  | [] => 0
  | x :: r => uptoBulkEntry x + uptoBulkEntries r
def uptoBulkEntry {H : Type} : Lit × DataW H → Nat
  | (.string bytes, d) => bytes.length + uptoBulk d + 1
  | (_, d) => uptoBulk d + 1
 end
def uptoSmall : (H : Type) → List (DataW H) → Bool := fun _ ds => decide (uptoBulkAll ds ≤ 1048576)
def OpenSpec.upto (s : _root_.Go.ChangeSpec) : _root_.Go.OpenSpec := { _root_.Go.OpenSpec.ofChange s with cond := some uptoSmall }

/-- 'laws.FnOrder', WHERE WHAT IT READS IS OF BULK AT MOST 1048576: true; the input reads as it did. -/
def fnOrderUptoRow : OpenClaim := { program := "ytaaedgniicnnmaa", sum := "71ba0d74d1b412bb1110b367f15d2f4af5c0d994d8eed3abb930aadeb6a66c12", func := "loop.example/g00636/laws.FnOrder", spec := "fnOrder", unfollowed := true, recurses := true, apart := false, narrowed := true }
def FnOrderUptoSaid : Prop := fnOrderUptoRow.holds Try.pinned (OpenSpec.upto fnOrderSpec)

/-- 'laws.FnLoops', WHERE WHAT IT READS IS OF BULK AT MOST 1048576: true; the input reads as it did. -/
def fnLoopsUptoRow : OpenClaim := { program := "ytaaedgniicnnmaa", sum := "71ba0d74d1b412bb1110b367f15d2f4af5c0d994d8eed3abb930aadeb6a66c12", func := "loop.example/g00636/laws.FnLoops", spec := "fnLoops", unfollowed := true, recurses := true, apart := false, narrowed := true }
def FnLoopsUptoSaid : Prop := fnLoopsUptoRow.holds Try.pinned (OpenSpec.upto fnLoopsSpec)

/-- 'laws.FnExactNewGraph', WHERE WHAT IT READS IS OF BULK AT MOST 1048576: true; the input reads as it did. -/
def fnExactNewGraphUptoRow : OpenClaim := { program := "ytaaedgniicnnmaa", sum := "71ba0d74d1b412bb1110b367f15d2f4af5c0d994d8eed3abb930aadeb6a66c12", func := "loop.example/g00636/laws.FnExactNewGraph", spec := "fnExactNewGraph", apart := false, narrowed := true }
def FnExactNewGraphUptoSaid : Prop := fnExactNewGraphUptoRow.holds Try.pinned (OpenSpec.upto fnExactNewGraphSpec)

/-- 'laws.FnExactGoodGraph', WHERE WHAT IT READS IS OF BULK AT MOST 1048576: true; the input reads as it did. -/
def fnExactGoodGraphUptoRow : OpenClaim := { program := "ytaaedgniicnnmaa", sum := "71ba0d74d1b412bb1110b367f15d2f4af5c0d994d8eed3abb930aadeb6a66c12", func := "loop.example/g00636/laws.FnExactGoodGraph", spec := "fnExactGoodGraph", apart := false, narrowed := true }
def FnExactGoodGraphUptoSaid : Prop := fnExactGoodGraphUptoRow.holds Try.pinned (OpenSpec.upto fnExactGoodGraphSpec)

/-- 'laws.FnExactAddNeed', WHERE WHAT IT READS IS OF BULK AT MOST 1048576: true; the input reads as it did. -/
def fnExactAddNeedUptoRow : OpenClaim := { program := "ytaaedgniicnnmaa", sum := "71ba0d74d1b412bb1110b367f15d2f4af5c0d994d8eed3abb930aadeb6a66c12", func := "loop.example/g00636/laws.FnExactAddNeed", spec := "fnExactAddNeed", unfollowed := true, recurses := true, apart := false, narrowed := true }
def FnExactAddNeedUptoSaid : Prop := fnExactAddNeedUptoRow.holds Try.pinned (OpenSpec.upto fnExactAddNeedSpec)

/-- 'laws.FnExactDropNeed', WHERE WHAT IT READS IS OF BULK AT MOST 1048576: true; the input reads as it did. -/
def fnExactDropNeedUptoRow : OpenClaim := { program := "ytaaedgniicnnmaa", sum := "71ba0d74d1b412bb1110b367f15d2f4af5c0d994d8eed3abb930aadeb6a66c12", func := "loop.example/g00636/laws.FnExactDropNeed", spec := "fnExactDropNeed", apart := false, narrowed := true }
def FnExactDropNeedUptoSaid : Prop := fnExactDropNeedUptoRow.holds Try.pinned (OpenSpec.upto fnExactDropNeedSpec)

/-- 'laws.FnExactPlaceOf', WHERE WHAT IT READS IS OF BULK AT MOST 1048576: true; the input reads as it did. -/
def fnExactPlaceOfUptoRow : OpenClaim := { program := "ytaaedgniicnnmaa", sum := "71ba0d74d1b412bb1110b367f15d2f4af5c0d994d8eed3abb930aadeb6a66c12", func := "loop.example/g00636/laws.FnExactPlaceOf", spec := "fnExactPlaceOf", apart := false, narrowed := true }
def FnExactPlaceOfUptoSaid : Prop := fnExactPlaceOfUptoRow.holds Try.pinned (OpenSpec.upto fnExactPlaceOfSpec)

/-- 'laws.FnExactWouldLoop', WHERE WHAT IT READS IS OF BULK AT MOST 1048576: true; the input reads as it did. -/
def fnExactWouldLoopUptoRow : OpenClaim := { program := "ytaaedgniicnnmaa", sum := "71ba0d74d1b412bb1110b367f15d2f4af5c0d994d8eed3abb930aadeb6a66c12", func := "loop.example/g00636/laws.FnExactWouldLoop", spec := "fnExactWouldLoop", apart := false, narrowed := true }
def FnExactWouldLoopUptoSaid : Prop := fnExactWouldLoopUptoRow.holds Try.pinned (OpenSpec.upto fnExactWouldLoopSpec)

/-- 'laws.FnExactUsersOf', WHERE WHAT IT READS IS OF BULK AT MOST 1048576: true; the input reads as it did. -/
def fnExactUsersOfUptoRow : OpenClaim := { program := "ytaaedgniicnnmaa", sum := "71ba0d74d1b412bb1110b367f15d2f4af5c0d994d8eed3abb930aadeb6a66c12", func := "loop.example/g00636/laws.FnExactUsersOf", spec := "fnExactUsersOf", apart := false, narrowed := true }
def FnExactUsersOfUptoSaid : Prop := fnExactUsersOfUptoRow.holds Try.pinned (OpenSpec.upto fnExactUsersOfSpec)

end Rows
end Go.Proofs.Ytaaedgniicnnmaa
