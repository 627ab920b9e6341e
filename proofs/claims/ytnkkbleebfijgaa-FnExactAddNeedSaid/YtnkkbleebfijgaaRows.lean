/-
  No cell of these rows narrows 'for every input' (looked for: loops, veiled, ifaces, maps, wideKeys, modest, calm, conditions, laid).
  DERIVED. THE GIVEN ROWS OF THIS SEAT. 6 by the template 'for every input the law returns true; each argument reads behind the call as it read before'; 0 by the template 'total and deterministic' (their statements: YtnkkbleebfijgaaTotals.lean).
  GIVEN WITH THE SEED: the statements are not yours to turn. If you find one false, say at which input.
  Laid BY PROGRAM, IN A SANDBOX (cutbox-rows.mjs): the forced cells as the released guide's own fill.sh prints them over the translation b89a9194f5fda16d… (all of the seat's roots in one cut). By AI agents, Wed Nov 11 2026. No macro, syntax, notation, axiom, sorry.
-/
import Derived.Test.YtnkkbleebfijgaaChecked
import GoSem.Claim
import GoSem.ClaimJoined
import GoSem.ClaimMapViews
import Derived.JoinedTies
import Derived.KernelRfl
namespace Go.Proofs.Ytnkkbleebfijgaa
/- THE CELL 'sum', in the pinned program and in every row, IS THE sha256 OF THE DUMP (.gsa) THAT YtnkkbleebfijgaaProg.lean LOADS. Nothing in Lean hashes anything: it is a label: what it is worth is what the hold of that sum in a sandbox is worth. -/
noncomputable def Try.pinned : Pinned := { name := "ytnkkbleebfijgaa", sum := "b89a9194f5fda16d170e01f769bcf4ddf3276be6b73ad347822ae30a7a932350", checked := Try.checked }
namespace Rows
def none {H : Type} : Left H := { results := [], args := [] }

/-- 'laws.FnExactAddNeed': WHATEVER THE INPUT: true; the input reads as it did. -/
def fnExactAddNeedSpec : ChangeSpec := { name := "fnExactAddNeed", fn := fun _ => fun
  | [d1, d2, d3] => { results := [.lit (.bool true)], args := [d1, d2, d3] }
  | _ => none }
def fnExactAddNeedRow : OpenClaim := { program := "ytnkkbleebfijgaa", sum := "b89a9194f5fda16d170e01f769bcf4ddf3276be6b73ad347822ae30a7a932350", func := "loop.example/g00636/laws.FnExactAddNeed", spec := "fnExactAddNeed", unfollowed := true, recurses := true, apart := false }
def FnExactAddNeedSaid : Prop := fnExactAddNeedRow.holds Try.pinned (OpenSpec.ofChange fnExactAddNeedSpec)

/-- ITS FALSE NEIGHBOUR: 'it returns false'. Refute it at one input. -/
def fnExactAddNeedWrong : ChangeSpec := { name := "fnExactAddNeed", fn := fun _ => fun
  | [d1, d2, d3] => { results := [.lit (.bool false)], args := [d1, d2, d3] }
  | _ => none }
def FnExactAddNeedWrongFalsely : Prop := fnExactAddNeedRow.holds Try.pinned (OpenSpec.ofChange fnExactAddNeedWrong)

/-- 'laws.FnExactGoodPlan': WHATEVER THE INPUT: true; the input reads as it did. -/
def fnExactGoodPlanSpec : ChangeSpec := { name := "fnExactGoodPlan", fn := fun _ => fun
  | [d] => { results := [.lit (.bool true)], args := [d] }
  | _ => none }
def fnExactGoodPlanRow : OpenClaim := { program := "ytnkkbleebfijgaa", sum := "b89a9194f5fda16d170e01f769bcf4ddf3276be6b73ad347822ae30a7a932350", func := "loop.example/g00636/laws.FnExactGoodPlan", spec := "fnExactGoodPlan", unfollowed := true, recurses := true, apart := false }
def FnExactGoodPlanSaid : Prop := fnExactGoodPlanRow.holds Try.pinned (OpenSpec.ofChange fnExactGoodPlanSpec)

/-- ITS FALSE NEIGHBOUR: 'it returns false'. Refute it at one input. -/
def fnExactGoodPlanWrong : ChangeSpec := { name := "fnExactGoodPlan", fn := fun _ => fun
  | [d] => { results := [.lit (.bool false)], args := [d] }
  | _ => none }
def FnExactGoodPlanWrongFalsely : Prop := fnExactGoodPlanRow.holds Try.pinned (OpenSpec.ofChange fnExactGoodPlanWrong)

/-- 'laws.FnExactGoodSources': WHATEVER THE INPUT: true; the input reads as it did. -/
def fnExactGoodSourcesSpec : ChangeSpec := { name := "fnExactGoodSources", fn := fun _ => fun
  | [d1, d2] => { results := [.lit (.bool true)], args := [d1, d2] }
  | _ => none }
def fnExactGoodSourcesRow : OpenClaim := { program := "ytnkkbleebfijgaa", sum := "b89a9194f5fda16d170e01f769bcf4ddf3276be6b73ad347822ae30a7a932350", func := "loop.example/g00636/laws.FnExactGoodSources", spec := "fnExactGoodSources", unfollowed := true, recurses := true, apart := false }
def FnExactGoodSourcesSaid : Prop := fnExactGoodSourcesRow.holds Try.pinned (OpenSpec.ofChange fnExactGoodSourcesSpec)

/-- ITS FALSE NEIGHBOUR: 'it returns false'. Refute it at one input. -/
def fnExactGoodSourcesWrong : ChangeSpec := { name := "fnExactGoodSources", fn := fun _ => fun
  | [d1, d2] => { results := [.lit (.bool false)], args := [d1, d2] }
  | _ => none }
def FnExactGoodSourcesWrongFalsely : Prop := fnExactGoodSourcesRow.holds Try.pinned (OpenSpec.ofChange fnExactGoodSourcesWrong)

/-- 'laws.FnExactFailedIn': WHATEVER THE INPUT: true; the input reads as it did. -/
def fnExactFailedInSpec : ChangeSpec := { name := "fnExactFailedIn", fn := fun _ => fun
  | [d] => { results := [.lit (.bool true)], args := [d] }
  | _ => none }
def fnExactFailedInRow : OpenClaim := { program := "ytnkkbleebfijgaa", sum := "b89a9194f5fda16d170e01f769bcf4ddf3276be6b73ad347822ae30a7a932350", func := "loop.example/g00636/laws.FnExactFailedIn", spec := "fnExactFailedIn", unfollowed := true, recurses := true, apart := false }
def FnExactFailedInSaid : Prop := fnExactFailedInRow.holds Try.pinned (OpenSpec.ofChange fnExactFailedInSpec)

/-- ITS FALSE NEIGHBOUR: 'it returns false'. Refute it at one input. -/
def fnExactFailedInWrong : ChangeSpec := { name := "fnExactFailedIn", fn := fun _ => fun
  | [d] => { results := [.lit (.bool false)], args := [d] }
  | _ => none }
def FnExactFailedInWrongFalsely : Prop := fnExactFailedInRow.holds Try.pinned (OpenSpec.ofChange fnExactFailedInWrong)

/-- 'laws.FnExactBlockedBy': WHATEVER THE INPUT: true; the input reads as it did. -/
def fnExactBlockedBySpec : ChangeSpec := { name := "fnExactBlockedBy", fn := fun _ => fun
  | [d1, d2, d3] => { results := [.lit (.bool true)], args := [d1, d2, d3] }
  | _ => none }
def fnExactBlockedByRow : OpenClaim := { program := "ytnkkbleebfijgaa", sum := "b89a9194f5fda16d170e01f769bcf4ddf3276be6b73ad347822ae30a7a932350", func := "loop.example/g00636/laws.FnExactBlockedBy", spec := "fnExactBlockedBy", unfollowed := true, recurses := true, apart := false }
def FnExactBlockedBySaid : Prop := fnExactBlockedByRow.holds Try.pinned (OpenSpec.ofChange fnExactBlockedBySpec)

/-- ITS FALSE NEIGHBOUR: 'it returns false'. Refute it at one input. -/
def fnExactBlockedByWrong : ChangeSpec := { name := "fnExactBlockedBy", fn := fun _ => fun
  | [d1, d2, d3] => { results := [.lit (.bool false)], args := [d1, d2, d3] }
  | _ => none }
def FnExactBlockedByWrongFalsely : Prop := fnExactBlockedByRow.holds Try.pinned (OpenSpec.ofChange fnExactBlockedByWrong)

/-- 'laws.FnExactInputsOf': WHATEVER THE INPUT: true; the input reads as it did. -/
def fnExactInputsOfSpec : ChangeSpec := { name := "fnExactInputsOf", fn := fun _ => fun
  | [d1, d2, d3] => { results := [.lit (.bool true)], args := [d1, d2, d3] }
  | _ => none }
def fnExactInputsOfRow : OpenClaim := { program := "ytnkkbleebfijgaa", sum := "b89a9194f5fda16d170e01f769bcf4ddf3276be6b73ad347822ae30a7a932350", func := "loop.example/g00636/laws.FnExactInputsOf", spec := "fnExactInputsOf", unfollowed := true, recurses := true, apart := false }
def FnExactInputsOfSaid : Prop := fnExactInputsOfRow.holds Try.pinned (OpenSpec.ofChange fnExactInputsOfSpec)

/-- ITS FALSE NEIGHBOUR: 'it returns false'. Refute it at one input. -/
def fnExactInputsOfWrong : ChangeSpec := { name := "fnExactInputsOf", fn := fun _ => fun
  | [d1, d2, d3] => { results := [.lit (.bool false)], args := [d1, d2, d3] }
  | _ => none }
def FnExactInputsOfWrongFalsely : Prop := fnExactInputsOfRow.holds Try.pinned (OpenSpec.ofChange fnExactInputsOfWrong)

/- THE SECOND FORM. 'bulk': how many values and letters a reading holds, each counted each time it is reached (what is shared counts as often as it is met; a slice's spare places count too). A statement '..UptoSaid' is the law's where the arguments, and the package variables that the reading takes, are together of bulk at most 1048576: NARROWER than '..Said'. Prove '..Said' where nothing that the law and all that it calls make is longer than what came in: it says more and counts as full. Else prove '..UptoSaid'. A law counts once. -/
mutual
def uptoBulk {H : Type} : DataW H → Nat
  | .lit (.string bytes) => bytes.length + 1
  | .lit _ => 1
  | .nil => 1
  | .ptr d => uptoBulk d + 1
  | .slice elems spare => uptoBulkAll elems + uptoBulkAll spare + 1
  | .agg parts => uptoBulkAll parts + 1
  | .iface _ d => uptoBulk d + 1
  | .map entries => uptoBulkEntries entries + 1
  | .held _ => 1
def uptoBulkAll {H : Type} : List (DataW H) → Nat
  | [] => 0
  | d :: r => uptoBulk d + uptoBulkAll r
def uptoBulkEntries {H : Type} : List (Lit × DataW H) → Nat
  | [] => 0
  | x :: r => uptoBulkEntry x + uptoBulkEntries r
def uptoBulkEntry {H : Type} : Lit × DataW H → Nat
  | (.string bytes, d) => bytes.length + uptoBulk d + 1
  | (_, d) => uptoBulk d + 1
 end
def uptoSmall : (H : Type) → List (DataW H) → Bool := fun _ ds => decide (uptoBulkAll ds ≤ 1048576)
def OpenSpec.upto (s : _root_.Go.ChangeSpec) : _root_.Go.OpenSpec := { _root_.Go.OpenSpec.ofChange s with cond := some uptoSmall }

/-- 'laws.FnExactAddNeed', WHERE WHAT IT READS IS OF BULK AT MOST 1048576: true; the input reads as it did. -/
def fnExactAddNeedUptoRow : OpenClaim := { program := "ytnkkbleebfijgaa", sum := "b89a9194f5fda16d170e01f769bcf4ddf3276be6b73ad347822ae30a7a932350", func := "loop.example/g00636/laws.FnExactAddNeed", spec := "fnExactAddNeed", unfollowed := true, recurses := true, apart := false, narrowed := true }
def FnExactAddNeedUptoSaid : Prop := fnExactAddNeedUptoRow.holds Try.pinned (OpenSpec.upto fnExactAddNeedSpec)

/-- 'laws.FnExactGoodPlan', WHERE WHAT IT READS IS OF BULK AT MOST 1048576: true; the input reads as it did. -/
def fnExactGoodPlanUptoRow : OpenClaim := { program := "ytnkkbleebfijgaa", sum := "b89a9194f5fda16d170e01f769bcf4ddf3276be6b73ad347822ae30a7a932350", func := "loop.example/g00636/laws.FnExactGoodPlan", spec := "fnExactGoodPlan", unfollowed := true, recurses := true, apart := false, narrowed := true }
def FnExactGoodPlanUptoSaid : Prop := fnExactGoodPlanUptoRow.holds Try.pinned (OpenSpec.upto fnExactGoodPlanSpec)

/-- 'laws.FnExactGoodSources', WHERE WHAT IT READS IS OF BULK AT MOST 1048576: true; the input reads as it did. -/
def fnExactGoodSourcesUptoRow : OpenClaim := { program := "ytnkkbleebfijgaa", sum := "b89a9194f5fda16d170e01f769bcf4ddf3276be6b73ad347822ae30a7a932350", func := "loop.example/g00636/laws.FnExactGoodSources", spec := "fnExactGoodSources", unfollowed := true, recurses := true, apart := false, narrowed := true }
def FnExactGoodSourcesUptoSaid : Prop := fnExactGoodSourcesUptoRow.holds Try.pinned (OpenSpec.upto fnExactGoodSourcesSpec)

/-- 'laws.FnExactFailedIn', WHERE WHAT IT READS IS OF BULK AT MOST 1048576: true; the input reads as it did. -/
def fnExactFailedInUptoRow : OpenClaim := { program := "ytnkkbleebfijgaa", sum := "b89a9194f5fda16d170e01f769bcf4ddf3276be6b73ad347822ae30a7a932350", func := "loop.example/g00636/laws.FnExactFailedIn", spec := "fnExactFailedIn", unfollowed := true, recurses := true, apart := false, narrowed := true }
def FnExactFailedInUptoSaid : Prop := fnExactFailedInUptoRow.holds Try.pinned (OpenSpec.upto fnExactFailedInSpec)

/-- 'laws.FnExactBlockedBy', WHERE WHAT IT READS IS OF BULK AT MOST 1048576: true; the input reads as it did. -/
def fnExactBlockedByUptoRow : OpenClaim := { program := "ytnkkbleebfijgaa", sum := "b89a9194f5fda16d170e01f769bcf4ddf3276be6b73ad347822ae30a7a932350", func := "loop.example/g00636/laws.FnExactBlockedBy", spec := "fnExactBlockedBy", unfollowed := true, recurses := true, apart := false, narrowed := true }
def FnExactBlockedByUptoSaid : Prop := fnExactBlockedByUptoRow.holds Try.pinned (OpenSpec.upto fnExactBlockedBySpec)

/-- 'laws.FnExactInputsOf', WHERE WHAT IT READS IS OF BULK AT MOST 1048576: true; the input reads as it did. -/
def fnExactInputsOfUptoRow : OpenClaim := { program := "ytnkkbleebfijgaa", sum := "b89a9194f5fda16d170e01f769bcf4ddf3276be6b73ad347822ae30a7a932350", func := "loop.example/g00636/laws.FnExactInputsOf", spec := "fnExactInputsOf", unfollowed := true, recurses := true, apart := false, narrowed := true }
def FnExactInputsOfUptoSaid : Prop := fnExactInputsOfUptoRow.holds Try.pinned (OpenSpec.upto fnExactInputsOfSpec)

end Rows
end Go.Proofs.Ytnkkbleebfijgaa
