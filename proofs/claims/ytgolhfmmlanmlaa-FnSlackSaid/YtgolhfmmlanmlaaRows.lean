/-
  No cell of these rows narrows 'for every input' (looked for: loops, veiled, ifaces, maps, wideKeys, modest, calm, conditions, laid).
  DERIVED. THE GIVEN ROWS OF THIS SEAT. 8 by the template 'for every input the law returns true; each argument reads behind the call as it read before'; 0 by the template 'total and deterministic' (their statements: YtgolhfmmlanmlaaTotals.lean).
  GIVEN WITH THE SEED: the statements are not yours to turn. If you find one false, say at which input.
  Laid BY PROGRAM, IN A SANDBOX (cutbox-rows.mjs): the forced cells as the released guide's own fill.sh prints them over the translation 70a41100ce4f96f0… (all of the seat's roots in one cut). By AI agents, Wed Nov 11 2026. No macro, syntax, notation, axiom, sorry.
-/
import Derived.Test.YtgolhfmmlanmlaaChecked
import GoSem.Claim
import GoSem.ClaimJoined
import GoSem.ClaimMapViews
import Derived.JoinedTies
import Derived.KernelRfl
namespace Go.Proofs.Ytgolhfmmlanmlaa
/- THE CELL 'sum', in the pinned program and in every row, IS THE sha256 OF THE DUMP (.gsa) THAT YtgolhfmmlanmlaaProg.lean LOADS. Nothing in Lean hashes anything: it is a label: what it is worth is what the hold of that sum in a sandbox is worth. -/
noncomputable def Try.pinned : Pinned := { name := "ytgolhfmmlanmlaa", sum := "70a41100ce4f96f043812a0e91ec825e96f10e33b930181e3e2d030a5797f196", checked := Try.checked }
namespace Rows
def none {H : Type} : Left H := { results := [], args := [] }

/-- 'laws.FnEnds': WHATEVER THE INPUT: true; the input reads as it did. -/
def fnEndsSpec : ChangeSpec := { name := "fnEnds", fn := fun _ => fun
  | [d1, d2] => { results := [.lit (.bool true)], args := [d1, d2] }
  | _ => none }
def fnEndsRow : OpenClaim := { program := "ytgolhfmmlanmlaa", sum := "70a41100ce4f96f043812a0e91ec825e96f10e33b930181e3e2d030a5797f196", func := "loop.example/g00636/laws.FnEnds", spec := "fnEnds", unfollowed := true, recurses := true, apart := false }
def FnEndsSaid : Prop := fnEndsRow.holds Try.pinned (OpenSpec.ofChange fnEndsSpec)

/-- ITS FALSE NEIGHBOUR: 'it returns false'. Refute it at one input. -/
def fnEndsWrong : ChangeSpec := { name := "fnEnds", fn := fun _ => fun
  | [d1, d2] => { results := [.lit (.bool false)], args := [d1, d2] }
  | _ => none }
def FnEndsWrongFalsely : Prop := fnEndsRow.holds Try.pinned (OpenSpec.ofChange fnEndsWrong)

/-- 'laws.FnSlack': WHATEVER THE INPUT: true; the input reads as it did. -/
def fnSlackSpec : ChangeSpec := { name := "fnSlack", fn := fun _ => fun
  | [d1, d2] => { results := [.lit (.bool true)], args := [d1, d2] }
  | _ => none }
def fnSlackRow : OpenClaim := { program := "ytgolhfmmlanmlaa", sum := "70a41100ce4f96f043812a0e91ec825e96f10e33b930181e3e2d030a5797f196", func := "loop.example/g00636/laws.FnSlack", spec := "fnSlack", unfollowed := true, recurses := true, apart := false }
def FnSlackSaid : Prop := fnSlackRow.holds Try.pinned (OpenSpec.ofChange fnSlackSpec)

/-- ITS FALSE NEIGHBOUR: 'it returns false'. Refute it at one input. -/
def fnSlackWrong : ChangeSpec := { name := "fnSlack", fn := fun _ => fun
  | [d1, d2] => { results := [.lit (.bool false)], args := [d1, d2] }
  | _ => none }
def FnSlackWrongFalsely : Prop := fnSlackRow.holds Try.pinned (OpenSpec.ofChange fnSlackWrong)

/-- 'laws.FnExactEarliestEnds': WHATEVER THE INPUT: true; the input reads as it did. -/
def fnExactEarliestEndsSpec : ChangeSpec := { name := "fnExactEarliestEnds", fn := fun _ => fun
  | [d1, d2] => { results := [.lit (.bool true)], args := [d1, d2] }
  | _ => none }
def fnExactEarliestEndsRow : OpenClaim := { program := "ytgolhfmmlanmlaa", sum := "70a41100ce4f96f043812a0e91ec825e96f10e33b930181e3e2d030a5797f196", func := "loop.example/g00636/laws.FnExactEarliestEnds", spec := "fnExactEarliestEnds", unfollowed := true, recurses := true, apart := false }
def FnExactEarliestEndsSaid : Prop := fnExactEarliestEndsRow.holds Try.pinned (OpenSpec.ofChange fnExactEarliestEndsSpec)

/-- ITS FALSE NEIGHBOUR: 'it returns false'. Refute it at one input. -/
def fnExactEarliestEndsWrong : ChangeSpec := { name := "fnExactEarliestEnds", fn := fun _ => fun
  | [d1, d2] => { results := [.lit (.bool false)], args := [d1, d2] }
  | _ => none }
def FnExactEarliestEndsWrongFalsely : Prop := fnExactEarliestEndsRow.holds Try.pinned (OpenSpec.ofChange fnExactEarliestEndsWrong)

/-- 'laws.FnExactLatestEnds': WHATEVER THE INPUT: true; the input reads as it did. -/
def fnExactLatestEndsSpec : ChangeSpec := { name := "fnExactLatestEnds", fn := fun _ => fun
  | [d1, d2] => { results := [.lit (.bool true)], args := [d1, d2] }
  | _ => none }
def fnExactLatestEndsRow : OpenClaim := { program := "ytgolhfmmlanmlaa", sum := "70a41100ce4f96f043812a0e91ec825e96f10e33b930181e3e2d030a5797f196", func := "loop.example/g00636/laws.FnExactLatestEnds", spec := "fnExactLatestEnds", unfollowed := true, recurses := true, apart := false }
def FnExactLatestEndsSaid : Prop := fnExactLatestEndsRow.holds Try.pinned (OpenSpec.ofChange fnExactLatestEndsSpec)

/-- ITS FALSE NEIGHBOUR: 'it returns false'. Refute it at one input. -/
def fnExactLatestEndsWrong : ChangeSpec := { name := "fnExactLatestEnds", fn := fun _ => fun
  | [d1, d2] => { results := [.lit (.bool false)], args := [d1, d2] }
  | _ => none }
def FnExactLatestEndsWrongFalsely : Prop := fnExactLatestEndsRow.holds Try.pinned (OpenSpec.ofChange fnExactLatestEndsWrong)

/-- 'laws.FnExactSlackOf': WHATEVER THE INPUT: true; the input reads as it did. -/
def fnExactSlackOfSpec : ChangeSpec := { name := "fnExactSlackOf", fn := fun _ => fun
  | [d1, d2] => { results := [.lit (.bool true)], args := [d1, d2] }
  | _ => none }
def fnExactSlackOfRow : OpenClaim := { program := "ytgolhfmmlanmlaa", sum := "70a41100ce4f96f043812a0e91ec825e96f10e33b930181e3e2d030a5797f196", func := "loop.example/g00636/laws.FnExactSlackOf", spec := "fnExactSlackOf", unfollowed := true, recurses := true, apart := false }
def FnExactSlackOfSaid : Prop := fnExactSlackOfRow.holds Try.pinned (OpenSpec.ofChange fnExactSlackOfSpec)

/-- ITS FALSE NEIGHBOUR: 'it returns false'. Refute it at one input. -/
def fnExactSlackOfWrong : ChangeSpec := { name := "fnExactSlackOf", fn := fun _ => fun
  | [d1, d2] => { results := [.lit (.bool false)], args := [d1, d2] }
  | _ => none }
def FnExactSlackOfWrongFalsely : Prop := fnExactSlackOfRow.holds Try.pinned (OpenSpec.ofChange fnExactSlackOfWrong)

/-- 'laws.FnExactLongestWay': WHATEVER THE INPUT: true; the input reads as it did. -/
def fnExactLongestWaySpec : ChangeSpec := { name := "fnExactLongestWay", fn := fun _ => fun
  | [d1, d2] => { results := [.lit (.bool true)], args := [d1, d2] }
  | _ => none }
def fnExactLongestWayRow : OpenClaim := { program := "ytgolhfmmlanmlaa", sum := "70a41100ce4f96f043812a0e91ec825e96f10e33b930181e3e2d030a5797f196", func := "loop.example/g00636/laws.FnExactLongestWay", spec := "fnExactLongestWay", unfollowed := true, recurses := true, apart := false }
def FnExactLongestWaySaid : Prop := fnExactLongestWayRow.holds Try.pinned (OpenSpec.ofChange fnExactLongestWaySpec)

/-- ITS FALSE NEIGHBOUR: 'it returns false'. Refute it at one input. -/
def fnExactLongestWayWrong : ChangeSpec := { name := "fnExactLongestWay", fn := fun _ => fun
  | [d1, d2] => { results := [.lit (.bool false)], args := [d1, d2] }
  | _ => none }
def FnExactLongestWayWrongFalsely : Prop := fnExactLongestWayRow.holds Try.pinned (OpenSpec.ofChange fnExactLongestWayWrong)

/-- 'laws.FnExactWithTime': WHATEVER THE INPUT: true; the input reads as it did. -/
def fnExactWithTimeSpec : ChangeSpec := { name := "fnExactWithTime", fn := fun _ => fun
  | [d1, d2, d3] => { results := [.lit (.bool true)], args := [d1, d2, d3] }
  | _ => none }
def fnExactWithTimeRow : OpenClaim := { program := "ytgolhfmmlanmlaa", sum := "70a41100ce4f96f043812a0e91ec825e96f10e33b930181e3e2d030a5797f196", func := "loop.example/g00636/laws.FnExactWithTime", spec := "fnExactWithTime", unfollowed := true, recurses := true, apart := false }
def FnExactWithTimeSaid : Prop := fnExactWithTimeRow.holds Try.pinned (OpenSpec.ofChange fnExactWithTimeSpec)

/-- ITS FALSE NEIGHBOUR: 'it returns false'. Refute it at one input. -/
def fnExactWithTimeWrong : ChangeSpec := { name := "fnExactWithTime", fn := fun _ => fun
  | [d1, d2, d3] => { results := [.lit (.bool false)], args := [d1, d2, d3] }
  | _ => none }
def FnExactWithTimeWrongFalsely : Prop := fnExactWithTimeRow.holds Try.pinned (OpenSpec.ofChange fnExactWithTimeWrong)

/-- 'laws.FnExactTailsOf': WHATEVER THE INPUT: true; the input reads as it did. -/
def fnExactTailsOfSpec : ChangeSpec := { name := "fnExactTailsOf", fn := fun _ => fun
  | [d1, d2] => { results := [.lit (.bool true)], args := [d1, d2] }
  | _ => none }
def fnExactTailsOfRow : OpenClaim := { program := "ytgolhfmmlanmlaa", sum := "70a41100ce4f96f043812a0e91ec825e96f10e33b930181e3e2d030a5797f196", func := "loop.example/g00636/laws.FnExactTailsOf", spec := "fnExactTailsOf", unfollowed := true, recurses := true, apart := false }
def FnExactTailsOfSaid : Prop := fnExactTailsOfRow.holds Try.pinned (OpenSpec.ofChange fnExactTailsOfSpec)

/-- ITS FALSE NEIGHBOUR: 'it returns false'. Refute it at one input. -/
def fnExactTailsOfWrong : ChangeSpec := { name := "fnExactTailsOf", fn := fun _ => fun
  | [d1, d2] => { results := [.lit (.bool false)], args := [d1, d2] }
  | _ => none }
def FnExactTailsOfWrongFalsely : Prop := fnExactTailsOfRow.holds Try.pinned (OpenSpec.ofChange fnExactTailsOfWrong)

/- THE SECOND FORM. 'bulk': how many values and letters a reading holds, each counted each time it is reached (what is shared counts as often as it is met; a slice's spare places count too). A statement '..UptoSaid' is the law's where the arguments, and the package variables that the reading takes, are together of bulk at most 1048576: NARROWER than '..Said'. Prove '..Said' where nothing that the law and all that it calls make is longer than what came in: it says more and counts as full. Else prove '..UptoSaid'. A law counts once. -/
mutual
def uptoBulk {H : Type} : DataW H → Nat
  | .lit (.string bytes) => bytes.length + 1
  | .lit _ => 1
  | .nil => 1
  | .ptr d => uptoBulk d + 1
  | .slice elems spare => uptoBulkAll elems + uptoBulkAll spare + 1
  | .agg parts => uptoBulkAll parts + 1
  | .iface _ d => uptoBulk d + 1
  | .map entries => uptoBulkEntries entries + 1
  | .held _ => 1
def uptoBulkAll {H : Type} : List (DataW H) → Nat
  | [] => 0
  | d :: r => uptoBulk d + uptoBulkAll r
def uptoBulkEntries {H : Type} : List (Lit × DataW H) → Nat
  | [] => 0
  | x :: r => uptoBulkEntry x + uptoBulkEntries r
def uptoBulkEntry {H : Type} : Lit × DataW H → Nat
  | (.string bytes, d) => bytes.length + uptoBulk d + 1
  | (_, d) => uptoBulk d + 1
 end
def uptoSmall : (H : Type) → List (DataW H) → Bool := fun _ ds => decide (uptoBulkAll ds ≤ 1048576)
def OpenSpec.upto (s : _root_.Go.ChangeSpec) : _root_.Go.OpenSpec := { _root_.Go.OpenSpec.ofChange s with cond := some uptoSmall }

/-- 'laws.FnEnds', WHERE WHAT IT READS IS OF BULK AT MOST 1048576: true; the input reads as it did. -/
def fnEndsUptoRow : OpenClaim := { program := "ytgolhfmmlanmlaa", sum := "70a41100ce4f96f043812a0e91ec825e96f10e33b930181e3e2d030a5797f196", func := "loop.example/g00636/laws.FnEnds", spec := "fnEnds", unfollowed := true, recurses := true, apart := false, narrowed := true }
def FnEndsUptoSaid : Prop := fnEndsUptoRow.holds Try.pinned (OpenSpec.upto fnEndsSpec)

/-- 'laws.FnSlack', WHERE WHAT IT READS IS OF BULK AT MOST 1048576: true; the input reads as it did. -/
def fnSlackUptoRow : OpenClaim := { program := "ytgolhfmmlanmlaa", sum := "70a41100ce4f96f043812a0e91ec825e96f10e33b930181e3e2d030a5797f196", func := "loop.example/g00636/laws.FnSlack", spec := "fnSlack", unfollowed := true, recurses := true, apart := false, narrowed := true }
def FnSlackUptoSaid : Prop := fnSlackUptoRow.holds Try.pinned (OpenSpec.upto fnSlackSpec)

/-- 'laws.FnExactEarliestEnds', WHERE WHAT IT READS IS OF BULK AT MOST 1048576: true; the input reads as it did. -/
def fnExactEarliestEndsUptoRow : OpenClaim := { program := "ytgolhfmmlanmlaa", sum := "70a41100ce4f96f043812a0e91ec825e96f10e33b930181e3e2d030a5797f196", func := "loop.example/g00636/laws.FnExactEarliestEnds", spec := "fnExactEarliestEnds", unfollowed := true, recurses := true, apart := false, narrowed := true }
def FnExactEarliestEndsUptoSaid : Prop := fnExactEarliestEndsUptoRow.holds Try.pinned (OpenSpec.upto fnExactEarliestEndsSpec)

/-- 'laws.FnExactLatestEnds', WHERE WHAT IT READS IS OF BULK AT MOST 1048576: true; the input reads as it did. -/
def fnExactLatestEndsUptoRow : OpenClaim := { program := "ytgolhfmmlanmlaa", sum := "70a41100ce4f96f043812a0e91ec825e96f10e33b930181e3e2d030a5797f196", func := "loop.example/g00636/laws.FnExactLatestEnds", spec := "fnExactLatestEnds", unfollowed := true, recurses := true, apart := false, narrowed := true }
def FnExactLatestEndsUptoSaid : Prop := fnExactLatestEndsUptoRow.holds Try.pinned (OpenSpec.upto fnExactLatestEndsSpec)

/-- 'laws.FnExactSlackOf', WHERE WHAT IT READS IS OF BULK AT MOST 1048576: true; the input reads as it did. -/
def fnExactSlackOfUptoRow : OpenClaim := { program := "ytgolhfmmlanmlaa", sum := "70a41100ce4f96f043812a0e91ec825e96f10e33b930181e3e2d030a5797f196", func := "loop.example/g00636/laws.FnExactSlackOf", spec := "fnExactSlackOf", unfollowed := true, recurses := true, apart := false, narrowed := true }
def FnExactSlackOfUptoSaid : Prop := fnExactSlackOfUptoRow.holds Try.pinned (OpenSpec.upto fnExactSlackOfSpec)

/-- 'laws.FnExactLongestWay', WHERE WHAT IT READS IS OF BULK AT MOST 1048576: true; the input reads as it did. -/
def fnExactLongestWayUptoRow : OpenClaim := { program := "ytgolhfmmlanmlaa", sum := "70a41100ce4f96f043812a0e91ec825e96f10e33b930181e3e2d030a5797f196", func := "loop.example/g00636/laws.FnExactLongestWay", spec := "fnExactLongestWay", unfollowed := true, recurses := true, apart := false, narrowed := true }
def FnExactLongestWayUptoSaid : Prop := fnExactLongestWayUptoRow.holds Try.pinned (OpenSpec.upto fnExactLongestWaySpec)

/-- 'laws.FnExactWithTime', WHERE WHAT IT READS IS OF BULK AT MOST 1048576: true; the input reads as it did. -/
def fnExactWithTimeUptoRow : OpenClaim := { program := "ytgolhfmmlanmlaa", sum := "70a41100ce4f96f043812a0e91ec825e96f10e33b930181e3e2d030a5797f196", func := "loop.example/g00636/laws.FnExactWithTime", spec := "fnExactWithTime", unfollowed := true, recurses := true, apart := false, narrowed := true }
def FnExactWithTimeUptoSaid : Prop := fnExactWithTimeUptoRow.holds Try.pinned (OpenSpec.upto fnExactWithTimeSpec)

/-- 'laws.FnExactTailsOf', WHERE WHAT IT READS IS OF BULK AT MOST 1048576: true; the input reads as it did. -/
def fnExactTailsOfUptoRow : OpenClaim := { program := "ytgolhfmmlanmlaa", sum := "70a41100ce4f96f043812a0e91ec825e96f10e33b930181e3e2d030a5797f196", func := "loop.example/g00636/laws.FnExactTailsOf", spec := "fnExactTailsOf", unfollowed := true, recurses := true, apart := false, narrowed := true }
def FnExactTailsOfUptoSaid : Prop := fnExactTailsOfUptoRow.holds Try.pinned (OpenSpec.upto fnExactTailsOfSpec)

end Rows
end Go.Proofs.Ytgolhfmmlanmlaa
