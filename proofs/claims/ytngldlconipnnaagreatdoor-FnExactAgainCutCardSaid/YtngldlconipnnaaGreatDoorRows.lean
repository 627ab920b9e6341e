/-
  NARROWER THAN 'FOR EVERY INPUT', by the rows' own cells (each row's printed sentence says how): FnTraced: laid · FnExactAgainAll: laid · FnExactAgainCut: laid · FnExactFixFirst: laid · FnExactBuildTraced: laid · FnExactTrueTraces: laid.
  DERIVED. THE GIVEN ROWS OF THIS SEAT. 6 by the template 'for every input the law returns true; each argument reads behind the call as it read before'; 0 by the template 'total and deterministic' (their statements: YtngldlconipnnaaGreatDoorTotals.lean).
  GIVEN WITH THE SEED: the statements are not yours to turn. If you find one false, say at which input.
  Laid BY PROGRAM, IN A SANDBOX (cutbox-rows.mjs): the forced cells as the released guide's own fill.sh prints them over the translation d772ce151fc845f2… (all of the seat's roots in one cut). By AI agents, Wed Nov 11 2026. No macro, syntax, notation, axiom, sorry.
-/
import Derived.Test.YtngldlconipnnaaGreatDoorChecked
import GoSem.Claim
import GoSem.ClaimJoined
import GoSem.ClaimMapViews
import Derived.JoinedTies
import Derived.KernelRfl
namespace Go.Proofs.YtngldlconipnnaaGreatDoor
/- THE CELL 'sum', in the pinned program and in every row, IS THE sha256 OF THE DUMP (.gsa) THAT YtngldlconipnnaaGreatDoorProg.lean LOADS. Nothing in Lean hashes anything: it is a label: what it is worth is what the hold of that sum in a sandbox is worth. -/
noncomputable def Tryz.pinned : Pinned := { name := "ytngldlconipnnaagreatdoor", sum := "d772ce151fc845f2425b11d3b48fdbd4dbcde4172ae879e2eb3d4f2e976c8582", checked := Tryz.checked }
namespace Rows
def none {H : Type} : Left H := { results := [], args := [] }

/- WHAT THE LISTED PACKAGE-LEVEL VARIABLES READ AS WHEN THE CALL BEGINS. Each datum BY PROGRAM (the guide's laid-datum.mjs) off the statement by which the dump's own 'gosem.cut.vars' lays the variable. In a bare row this is a premise. The card (YtngldlconipnnaaGreatDoorCards.lean) ties it to the program's text. -/
def laid_math_bits_deBruijn32tab {H : Type} : DataW H := .agg [.lit (.int .u8 0), .lit (.int .u8 1), .lit (.int .u8 28), .lit (.int .u8 2), .lit (.int .u8 29), .lit (.int .u8 14), .lit (.int .u8 24), .lit (.int .u8 3), .lit (.int .u8 30), .lit (.int .u8 22), .lit (.int .u8 20), .lit (.int .u8 15), .lit (.int .u8 25), .lit (.int .u8 17), .lit (.int .u8 4), .lit (.int .u8 8), .lit (.int .u8 31), .lit (.int .u8 27), .lit (.int .u8 13), .lit (.int .u8 23), .lit (.int .u8 21), .lit (.int .u8 19), .lit (.int .u8 16), .lit (.int .u8 7), .lit (.int .u8 26), .lit (.int .u8 12), .lit (.int .u8 18), .lit (.int .u8 6), .lit (.int .u8 11), .lit (.int .u8 5), .lit (.int .u8 10), .lit (.int .u8 9)]
def laid_math_bits_deBruijn64tab {H : Type} : DataW H := .agg [.lit (.int .u8 0), .lit (.int .u8 1), .lit (.int .u8 56), .lit (.int .u8 2), .lit (.int .u8 57), .lit (.int .u8 49), .lit (.int .u8 28), .lit (.int .u8 3), .lit (.int .u8 61), .lit (.int .u8 58), .lit (.int .u8 42), .lit (.int .u8 50), .lit (.int .u8 38), .lit (.int .u8 29), .lit (.int .u8 17), .lit (.int .u8 4), .lit (.int .u8 62), .lit (.int .u8 47), .lit (.int .u8 59), .lit (.int .u8 36), .lit (.int .u8 45), .lit (.int .u8 43), .lit (.int .u8 51), .lit (.int .u8 22), .lit (.int .u8 53), .lit (.int .u8 39), .lit (.int .u8 33), .lit (.int .u8 30), .lit (.int .u8 24), .lit (.int .u8 18), .lit (.int .u8 12), .lit (.int .u8 5), .lit (.int .u8 63), .lit (.int .u8 55), .lit (.int .u8 48), .lit (.int .u8 27), .lit (.int .u8 60), .lit (.int .u8 41), .lit (.int .u8 37), .lit (.int .u8 16), .lit (.int .u8 46), .lit (.int .u8 35), .lit (.int .u8 44), .lit (.int .u8 21), .lit (.int .u8 52), .lit (.int .u8 32), .lit (.int .u8 23), .lit (.int .u8 11), .lit (.int .u8 54), .lit (.int .u8 26), .lit (.int .u8 40), .lit (.int .u8 15), .lit (.int .u8 34), .lit (.int .u8 20), .lit (.int .u8 31), .lit (.int .u8 10), .lit (.int .u8 25), .lit (.int .u8 14), .lit (.int .u8 19), .lit (.int .u8 9), .lit (.int .u8 13), .lit (.int .u8 8), .lit (.int .u8 7), .lit (.int .u8 6)]
def laid_internal_strconv_uint64pow10 {H : Type} : DataW H := .agg [.lit (.int .u64 1), .lit (.int .u64 10), .lit (.int .u64 100), .lit (.int .u64 1000), .lit (.int .u64 10000), .lit (.int .u64 100000), .lit (.int .u64 1000000), .lit (.int .u64 10000000), .lit (.int .u64 100000000), .lit (.int .u64 1000000000), .lit (.int .u64 10000000000), .lit (.int .u64 100000000000), .lit (.int .u64 1000000000000), .lit (.int .u64 10000000000000), .lit (.int .u64 100000000000000), .lit (.int .u64 1000000000000000), .lit (.int .u64 10000000000000000), .lit (.int .u64 100000000000000000), .lit (.int .u64 1000000000000000000), .lit (.int .u64 10000000000000000000)]

/-- 'laws.FnTraced': WHATEVER THE INPUT: true; the input reads as it did. -/
def fnTracedSpec : ChangeSpec := { name := "fnTraced", fn := fun _ => fun
  | [d1, d2] => { results := [.lit (.bool true)], args := [d1, d2] }
  | _ => none }
def fnTracedRow : OpenClaim := { program := "ytngldlconipnnaagreatdoor", sum := "d772ce151fc845f2425b11d3b48fdbd4dbcde4172ae879e2eb3d4f2e976c8582", func := "loop.example/g00636/laws.FnTraced", spec := "fnTraced", unfollowed := true, recurses := true, named := ["internal/strconv.uint64pow10", "math/bits.deBruijn32tab", "math/bits.deBruijn64tab"], apart := false, laid := [("math/bits.deBruijn32tab", laid_math_bits_deBruijn32tab), ("math/bits.deBruijn64tab", laid_math_bits_deBruijn64tab), ("internal/strconv.uint64pow10", laid_internal_strconv_uint64pow10)] }
def FnTracedSaid : Prop := fnTracedRow.holds Tryz.pinned (OpenSpec.ofChange fnTracedSpec)

/-- ITS FALSE NEIGHBOUR: 'it returns false'. Refute it at one input. -/
def fnTracedWrong : ChangeSpec := { name := "fnTraced", fn := fun _ => fun
  | [d1, d2] => { results := [.lit (.bool false)], args := [d1, d2] }
  | _ => none }
def FnTracedWrongFalsely : Prop := fnTracedRow.holds Tryz.pinned (OpenSpec.ofChange fnTracedWrong)

/-- 'laws.FnExactAgainAll': WHATEVER THE INPUT: true; the input reads as it did. -/
def fnExactAgainAllSpec : ChangeSpec := { name := "fnExactAgainAll", fn := fun _ => fun
  | [d1, d2, d3, d4] => { results := [.lit (.bool true)], args := [d1, d2, d3, d4] }
  | _ => none }
def fnExactAgainAllRow : OpenClaim := { program := "ytngldlconipnnaagreatdoor", sum := "d772ce151fc845f2425b11d3b48fdbd4dbcde4172ae879e2eb3d4f2e976c8582", func := "loop.example/g00636/laws.FnExactAgainAll", spec := "fnExactAgainAll", unfollowed := true, recurses := true, named := ["internal/strconv.uint64pow10", "math/bits.deBruijn32tab", "math/bits.deBruijn64tab"], apart := false, laid := [("math/bits.deBruijn32tab", laid_math_bits_deBruijn32tab), ("math/bits.deBruijn64tab", laid_math_bits_deBruijn64tab), ("internal/strconv.uint64pow10", laid_internal_strconv_uint64pow10)] }
def FnExactAgainAllSaid : Prop := fnExactAgainAllRow.holds Tryz.pinned (OpenSpec.ofChange fnExactAgainAllSpec)

/-- ITS FALSE NEIGHBOUR: 'it returns false'. Refute it at one input. -/
def fnExactAgainAllWrong : ChangeSpec := { name := "fnExactAgainAll", fn := fun _ => fun
  | [d1, d2, d3, d4] => { results := [.lit (.bool false)], args := [d1, d2, d3, d4] }
  | _ => none }
def FnExactAgainAllWrongFalsely : Prop := fnExactAgainAllRow.holds Tryz.pinned (OpenSpec.ofChange fnExactAgainAllWrong)

/-- 'laws.FnExactAgainCut': WHATEVER THE INPUT: true; the input reads as it did. -/
def fnExactAgainCutSpec : ChangeSpec := { name := "fnExactAgainCut", fn := fun _ => fun
  | [d1, d2, d3] => { results := [.lit (.bool true)], args := [d1, d2, d3] }
  | _ => none }
def fnExactAgainCutRow : OpenClaim := { program := "ytngldlconipnnaagreatdoor", sum := "d772ce151fc845f2425b11d3b48fdbd4dbcde4172ae879e2eb3d4f2e976c8582", func := "loop.example/g00636/laws.FnExactAgainCut", spec := "fnExactAgainCut", unfollowed := true, recurses := true, named := ["internal/strconv.uint64pow10", "math/bits.deBruijn32tab", "math/bits.deBruijn64tab"], apart := false, laid := [("math/bits.deBruijn32tab", laid_math_bits_deBruijn32tab), ("math/bits.deBruijn64tab", laid_math_bits_deBruijn64tab), ("internal/strconv.uint64pow10", laid_internal_strconv_uint64pow10)] }
def FnExactAgainCutSaid : Prop := fnExactAgainCutRow.holds Tryz.pinned (OpenSpec.ofChange fnExactAgainCutSpec)

/-- ITS FALSE NEIGHBOUR: 'it returns false'. Refute it at one input. -/
def fnExactAgainCutWrong : ChangeSpec := { name := "fnExactAgainCut", fn := fun _ => fun
  | [d1, d2, d3] => { results := [.lit (.bool false)], args := [d1, d2, d3] }
  | _ => none }
def FnExactAgainCutWrongFalsely : Prop := fnExactAgainCutRow.holds Tryz.pinned (OpenSpec.ofChange fnExactAgainCutWrong)

/-- 'laws.FnExactFixFirst': WHATEVER THE INPUT: true; the input reads as it did. -/
def fnExactFixFirstSpec : ChangeSpec := { name := "fnExactFixFirst", fn := fun _ => fun
  | [d1, d2, d3] => { results := [.lit (.bool true)], args := [d1, d2, d3] }
  | _ => none }
def fnExactFixFirstRow : OpenClaim := { program := "ytngldlconipnnaagreatdoor", sum := "d772ce151fc845f2425b11d3b48fdbd4dbcde4172ae879e2eb3d4f2e976c8582", func := "loop.example/g00636/laws.FnExactFixFirst", spec := "fnExactFixFirst", unfollowed := true, recurses := true, named := ["internal/strconv.uint64pow10", "math/bits.deBruijn32tab", "math/bits.deBruijn64tab"], apart := false, laid := [("math/bits.deBruijn32tab", laid_math_bits_deBruijn32tab), ("math/bits.deBruijn64tab", laid_math_bits_deBruijn64tab), ("internal/strconv.uint64pow10", laid_internal_strconv_uint64pow10)] }
def FnExactFixFirstSaid : Prop := fnExactFixFirstRow.holds Tryz.pinned (OpenSpec.ofChange fnExactFixFirstSpec)

/-- ITS FALSE NEIGHBOUR: 'it returns false'. Refute it at one input. -/
def fnExactFixFirstWrong : ChangeSpec := { name := "fnExactFixFirst", fn := fun _ => fun
  | [d1, d2, d3] => { results := [.lit (.bool false)], args := [d1, d2, d3] }
  | _ => none }
def FnExactFixFirstWrongFalsely : Prop := fnExactFixFirstRow.holds Tryz.pinned (OpenSpec.ofChange fnExactFixFirstWrong)

/-- 'laws.FnExactBuildTraced': WHATEVER THE INPUT: true; the input reads as it did. -/
def fnExactBuildTracedSpec : ChangeSpec := { name := "fnExactBuildTraced", fn := fun _ => fun
  | [d1, d2, d3] => { results := [.lit (.bool true)], args := [d1, d2, d3] }
  | _ => none }
def fnExactBuildTracedRow : OpenClaim := { program := "ytngldlconipnnaagreatdoor", sum := "d772ce151fc845f2425b11d3b48fdbd4dbcde4172ae879e2eb3d4f2e976c8582", func := "loop.example/g00636/laws.FnExactBuildTraced", spec := "fnExactBuildTraced", unfollowed := true, recurses := true, named := ["internal/strconv.uint64pow10", "math/bits.deBruijn32tab", "math/bits.deBruijn64tab"], apart := false, laid := [("math/bits.deBruijn32tab", laid_math_bits_deBruijn32tab), ("math/bits.deBruijn64tab", laid_math_bits_deBruijn64tab), ("internal/strconv.uint64pow10", laid_internal_strconv_uint64pow10)] }
def FnExactBuildTracedSaid : Prop := fnExactBuildTracedRow.holds Tryz.pinned (OpenSpec.ofChange fnExactBuildTracedSpec)

/-- ITS FALSE NEIGHBOUR: 'it returns false'. Refute it at one input. -/
def fnExactBuildTracedWrong : ChangeSpec := { name := "fnExactBuildTraced", fn := fun _ => fun
  | [d1, d2, d3] => { results := [.lit (.bool false)], args := [d1, d2, d3] }
  | _ => none }
def FnExactBuildTracedWrongFalsely : Prop := fnExactBuildTracedRow.holds Tryz.pinned (OpenSpec.ofChange fnExactBuildTracedWrong)

/-- 'laws.FnExactTrueTraces': WHATEVER THE INPUT: true; the input reads as it did. -/
def fnExactTrueTracesSpec : ChangeSpec := { name := "fnExactTrueTraces", fn := fun _ => fun
  | [d1, d2] => { results := [.lit (.bool true)], args := [d1, d2] }
  | _ => none }
def fnExactTrueTracesRow : OpenClaim := { program := "ytngldlconipnnaagreatdoor", sum := "d772ce151fc845f2425b11d3b48fdbd4dbcde4172ae879e2eb3d4f2e976c8582", func := "loop.example/g00636/laws.FnExactTrueTraces", spec := "fnExactTrueTraces", unfollowed := true, recurses := true, named := ["internal/strconv.uint64pow10", "math/bits.deBruijn32tab", "math/bits.deBruijn64tab"], apart := false, laid := [("math/bits.deBruijn32tab", laid_math_bits_deBruijn32tab), ("math/bits.deBruijn64tab", laid_math_bits_deBruijn64tab), ("internal/strconv.uint64pow10", laid_internal_strconv_uint64pow10)] }
def FnExactTrueTracesSaid : Prop := fnExactTrueTracesRow.holds Tryz.pinned (OpenSpec.ofChange fnExactTrueTracesSpec)

/-- ITS FALSE NEIGHBOUR: 'it returns false'. Refute it at one input. -/
def fnExactTrueTracesWrong : ChangeSpec := { name := "fnExactTrueTraces", fn := fun _ => fun
  | [d1, d2] => { results := [.lit (.bool false)], args := [d1, d2] }
  | _ => none }
def FnExactTrueTracesWrongFalsely : Prop := fnExactTrueTracesRow.holds Tryz.pinned (OpenSpec.ofChange fnExactTrueTracesWrong)

/- THE SECOND FORM. 'bulk': how many values and letters a reading holds, each counted each time it is reached (what is shared counts as often as it is met; a slice's spare places count too). A statement '..UptoSaid' is the law's where the arguments, and the package variables that the reading takes, are together of bulk at most 1048576: NARROWER than '..Said'. Prove '..Said' where nothing that the law and all that it calls make is longer than what came in: it says more and counts as full. Else prove '..UptoSaid'. A law counts once. -/
mutual
def uptoBulk {H : Type} : DataW H → Nat
  | .lit (.string bytes) => bytes.length + 1
  | .lit _ => 1
  | .nil => 1
  | .ptr d => uptoBulk d + 1
  | .slice elems spare => uptoBulkAll elems + uptoBulkAll spare + 1
  | .agg parts => uptoBulkAll parts + 1
  | .iface _ d => uptoBulk d + 1
  | .map entries => uptoBulkEntries entries + 1
  | .held _ => 1
def uptoBulkAll {H : Type} : List (DataW H) → Nat
  | [] => 0
  | d :: r => uptoBulk d + uptoBulkAll r
def uptoBulkEntries {H : Type} : List (Lit × DataW H) → Nat
  | [] => 0
  | x :: r => uptoBulkEntry x + uptoBulkEntries r
def uptoBulkEntry {H : Type} : Lit × DataW H → Nat
  | (.string bytes, d) => bytes.length + uptoBulk d + 1
  | (_, d) => uptoBulk d + 1
 end
def uptoSmall : (H : Type) → List (DataW H) → Bool := fun _ ds => decide (uptoBulkAll ds ≤ 1048576)
def OpenSpec.upto (s : _root_.Go.ChangeSpec) : _root_.Go.OpenSpec := { _root_.Go.OpenSpec.ofChange s with cond := some uptoSmall }

/-- 'laws.FnTraced', WHERE WHAT IT READS IS OF BULK AT MOST 1048576: true; the input reads as it did. -/
def fnTracedUptoRow : OpenClaim := { program := "ytngldlconipnnaagreatdoor", sum := "d772ce151fc845f2425b11d3b48fdbd4dbcde4172ae879e2eb3d4f2e976c8582", func := "loop.example/g00636/laws.FnTraced", spec := "fnTraced", unfollowed := true, recurses := true, named := ["internal/strconv.uint64pow10", "math/bits.deBruijn32tab", "math/bits.deBruijn64tab"], apart := false, laid := [("math/bits.deBruijn32tab", laid_math_bits_deBruijn32tab), ("math/bits.deBruijn64tab", laid_math_bits_deBruijn64tab), ("internal/strconv.uint64pow10", laid_internal_strconv_uint64pow10)], narrowed := true }
def FnTracedUptoSaid : Prop := fnTracedUptoRow.holds Tryz.pinned (OpenSpec.upto fnTracedSpec)

/-- 'laws.FnExactAgainAll', WHERE WHAT IT READS IS OF BULK AT MOST 1048576: true; the input reads as it did. -/
def fnExactAgainAllUptoRow : OpenClaim := { program := "ytngldlconipnnaagreatdoor", sum := "d772ce151fc845f2425b11d3b48fdbd4dbcde4172ae879e2eb3d4f2e976c8582", func := "loop.example/g00636/laws.FnExactAgainAll", spec := "fnExactAgainAll", unfollowed := true, recurses := true, named := ["internal/strconv.uint64pow10", "math/bits.deBruijn32tab", "math/bits.deBruijn64tab"], apart := false, laid := [("math/bits.deBruijn32tab", laid_math_bits_deBruijn32tab), ("math/bits.deBruijn64tab", laid_math_bits_deBruijn64tab), ("internal/strconv.uint64pow10", laid_internal_strconv_uint64pow10)], narrowed := true }
def FnExactAgainAllUptoSaid : Prop := fnExactAgainAllUptoRow.holds Tryz.pinned (OpenSpec.upto fnExactAgainAllSpec)

/-- 'laws.FnExactAgainCut', WHERE WHAT IT READS IS OF BULK AT MOST 1048576: true; the input reads as it did. -/
def fnExactAgainCutUptoRow : OpenClaim := { program := "ytngldlconipnnaagreatdoor", sum := "d772ce151fc845f2425b11d3b48fdbd4dbcde4172ae879e2eb3d4f2e976c8582", func := "loop.example/g00636/laws.FnExactAgainCut", spec := "fnExactAgainCut", unfollowed := true, recurses := true, named := ["internal/strconv.uint64pow10", "math/bits.deBruijn32tab", "math/bits.deBruijn64tab"], apart := false, laid := [("math/bits.deBruijn32tab", laid_math_bits_deBruijn32tab), ("math/bits.deBruijn64tab", laid_math_bits_deBruijn64tab), ("internal/strconv.uint64pow10", laid_internal_strconv_uint64pow10)], narrowed := true }
def FnExactAgainCutUptoSaid : Prop := fnExactAgainCutUptoRow.holds Tryz.pinned (OpenSpec.upto fnExactAgainCutSpec)

/-- 'laws.FnExactFixFirst', WHERE WHAT IT READS IS OF BULK AT MOST 1048576: true; the input reads as it did. -/
def fnExactFixFirstUptoRow : OpenClaim := { program := "ytngldlconipnnaagreatdoor", sum := "d772ce151fc845f2425b11d3b48fdbd4dbcde4172ae879e2eb3d4f2e976c8582", func := "loop.example/g00636/laws.FnExactFixFirst", spec := "fnExactFixFirst", unfollowed := true, recurses := true, named := ["internal/strconv.uint64pow10", "math/bits.deBruijn32tab", "math/bits.deBruijn64tab"], apart := false, laid := [("math/bits.deBruijn32tab", laid_math_bits_deBruijn32tab), ("math/bits.deBruijn64tab", laid_math_bits_deBruijn64tab), ("internal/strconv.uint64pow10", laid_internal_strconv_uint64pow10)], narrowed := true }
def FnExactFixFirstUptoSaid : Prop := fnExactFixFirstUptoRow.holds Tryz.pinned (OpenSpec.upto fnExactFixFirstSpec)

/-- 'laws.FnExactBuildTraced', WHERE WHAT IT READS IS OF BULK AT MOST 1048576: true; the input reads as it did. -/
def fnExactBuildTracedUptoRow : OpenClaim := { program := "ytngldlconipnnaagreatdoor", sum := "d772ce151fc845f2425b11d3b48fdbd4dbcde4172ae879e2eb3d4f2e976c8582", func := "loop.example/g00636/laws.FnExactBuildTraced", spec := "fnExactBuildTraced", unfollowed := true, recurses := true, named := ["internal/strconv.uint64pow10", "math/bits.deBruijn32tab", "math/bits.deBruijn64tab"], apart := false, laid := [("math/bits.deBruijn32tab", laid_math_bits_deBruijn32tab), ("math/bits.deBruijn64tab", laid_math_bits_deBruijn64tab), ("internal/strconv.uint64pow10", laid_internal_strconv_uint64pow10)], narrowed := true }
def FnExactBuildTracedUptoSaid : Prop := fnExactBuildTracedUptoRow.holds Tryz.pinned (OpenSpec.upto fnExactBuildTracedSpec)

/-- 'laws.FnExactTrueTraces', WHERE WHAT IT READS IS OF BULK AT MOST 1048576: true; the input reads as it did. -/
def fnExactTrueTracesUptoRow : OpenClaim := { program := "ytngldlconipnnaagreatdoor", sum := "d772ce151fc845f2425b11d3b48fdbd4dbcde4172ae879e2eb3d4f2e976c8582", func := "loop.example/g00636/laws.FnExactTrueTraces", spec := "fnExactTrueTraces", unfollowed := true, recurses := true, named := ["internal/strconv.uint64pow10", "math/bits.deBruijn32tab", "math/bits.deBruijn64tab"], apart := false, laid := [("math/bits.deBruijn32tab", laid_math_bits_deBruijn32tab), ("math/bits.deBruijn64tab", laid_math_bits_deBruijn64tab), ("internal/strconv.uint64pow10", laid_internal_strconv_uint64pow10)], narrowed := true }
def FnExactTrueTracesUptoSaid : Prop := fnExactTrueTracesUptoRow.holds Tryz.pinned (OpenSpec.upto fnExactTrueTracesSpec)

end Rows
end Go.Proofs.YtngldlconipnnaaGreatDoor
