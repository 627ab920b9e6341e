/- Texts of one claim, joined in their order. -/
import Derived.Test.YtnnojeoehomadaaDoorRows
import Derived.WalkKit
import Derived.Deep.Quiet
import Derived.StillTail
import Derived.BigQuiet
import Derived.Test.YtnnojeoehomadaaDoorM4

/- What a type assertion gives at each deed: closed facts of the loaded program. -/
namespace Go.Proofs.YtnnojeoehomadaaDoor
open Go.RowKit

theorem ta_cat_cat (v : Value) (w : World) : (Instr.typeAssert (.iface 86 v) 77 86 true).run Tryd.prog w = .ok (.tuple #[v, .bool true]) w := by kernel_rfl
theorem ta_cat_text (v : Value) (w : World) : (Instr.typeAssert (.iface 86 v) 77 95 true).run Tryd.prog w = .ok (.tuple #[.agg #[.string ByteArray.empty], .bool false]) w := by kernel_rfl
theorem ta_cat_upper (v : Value) (w : World) : (Instr.typeAssert (.iface 86 v) 77 97 true).run Tryd.prog w = .ok (.tuple #[.agg #[], .bool false]) w := by kernel_rfl
theorem ta_cat_sort (v : Value) (w : World) : (Instr.typeAssert (.iface 86 v) 77 98 true).run Tryd.prog w = .ok (.tuple #[.agg #[], .bool false]) w := by kernel_rfl
theorem ta_cat_drop (v : Value) (w : World) : (Instr.typeAssert (.iface 86 v) 77 100 true).run Tryd.prog w = .ok (.tuple #[.agg #[.int .i64 0], .bool false]) w := by kernel_rfl
theorem ta_cat_count (v : Value) (w : World) : (Instr.typeAssert (.iface 86 v) 77 101 true).run Tryd.prog w = .ok (.tuple #[.agg #[], .bool false]) w := by kernel_rfl
theorem ta_cat_fail (v : Value) (w : World) : (Instr.typeAssert (.iface 86 v) 77 102 true).run Tryd.prog w = .ok (.tuple #[.agg #[], .bool false]) w := by kernel_rfl
theorem ta_text_cat (v : Value) (w : World) : (Instr.typeAssert (.iface 95 v) 77 86 true).run Tryd.prog w = .ok (.tuple #[.agg #[.int .i64 0], .bool false]) w := by kernel_rfl
theorem ta_text_text (v : Value) (w : World) : (Instr.typeAssert (.iface 95 v) 77 95 true).run Tryd.prog w = .ok (.tuple #[v, .bool true]) w := by kernel_rfl
theorem ta_text_upper (v : Value) (w : World) : (Instr.typeAssert (.iface 95 v) 77 97 true).run Tryd.prog w = .ok (.tuple #[.agg #[], .bool false]) w := by kernel_rfl
theorem ta_text_sort (v : Value) (w : World) : (Instr.typeAssert (.iface 95 v) 77 98 true).run Tryd.prog w = .ok (.tuple #[.agg #[], .bool false]) w := by kernel_rfl
theorem ta_text_drop (v : Value) (w : World) : (Instr.typeAssert (.iface 95 v) 77 100 true).run Tryd.prog w = .ok (.tuple #[.agg #[.int .i64 0], .bool false]) w := by kernel_rfl
theorem ta_text_count (v : Value) (w : World) : (Instr.typeAssert (.iface 95 v) 77 101 true).run Tryd.prog w = .ok (.tuple #[.agg #[], .bool false]) w := by kernel_rfl
theorem ta_text_fail (v : Value) (w : World) : (Instr.typeAssert (.iface 95 v) 77 102 true).run Tryd.prog w = .ok (.tuple #[.agg #[], .bool false]) w := by kernel_rfl
theorem ta_upper_cat (v : Value) (w : World) : (Instr.typeAssert (.iface 97 v) 77 86 true).run Tryd.prog w = .ok (.tuple #[.agg #[.int .i64 0], .bool false]) w := by kernel_rfl
theorem ta_upper_text (v : Value) (w : World) : (Instr.typeAssert (.iface 97 v) 77 95 true).run Tryd.prog w = .ok (.tuple #[.agg #[.string ByteArray.empty], .bool false]) w := by kernel_rfl
theorem ta_upper_upper (v : Value) (w : World) : (Instr.typeAssert (.iface 97 v) 77 97 true).run Tryd.prog w = .ok (.tuple #[v, .bool true]) w := by kernel_rfl
theorem ta_upper_sort (v : Value) (w : World) : (Instr.typeAssert (.iface 97 v) 77 98 true).run Tryd.prog w = .ok (.tuple #[.agg #[], .bool false]) w := by kernel_rfl
theorem ta_upper_drop (v : Value) (w : World) : (Instr.typeAssert (.iface 97 v) 77 100 true).run Tryd.prog w = .ok (.tuple #[.agg #[.int .i64 0], .bool false]) w := by kernel_rfl
theorem ta_upper_count (v : Value) (w : World) : (Instr.typeAssert (.iface 97 v) 77 101 true).run Tryd.prog w = .ok (.tuple #[.agg #[], .bool false]) w := by kernel_rfl
theorem ta_upper_fail (v : Value) (w : World) : (Instr.typeAssert (.iface 97 v) 77 102 true).run Tryd.prog w = .ok (.tuple #[.agg #[], .bool false]) w := by kernel_rfl
theorem ta_sort_cat (v : Value) (w : World) : (Instr.typeAssert (.iface 98 v) 77 86 true).run Tryd.prog w = .ok (.tuple #[.agg #[.int .i64 0], .bool false]) w := by kernel_rfl
theorem ta_sort_text (v : Value) (w : World) : (Instr.typeAssert (.iface 98 v) 77 95 true).run Tryd.prog w = .ok (.tuple #[.agg #[.string ByteArray.empty], .bool false]) w := by kernel_rfl
theorem ta_sort_upper (v : Value) (w : World) : (Instr.typeAssert (.iface 98 v) 77 97 true).run Tryd.prog w = .ok (.tuple #[.agg #[], .bool false]) w := by kernel_rfl
theorem ta_sort_sort (v : Value) (w : World) : (Instr.typeAssert (.iface 98 v) 77 98 true).run Tryd.prog w = .ok (.tuple #[v, .bool true]) w := by kernel_rfl
theorem ta_sort_drop (v : Value) (w : World) : (Instr.typeAssert (.iface 98 v) 77 100 true).run Tryd.prog w = .ok (.tuple #[.agg #[.int .i64 0], .bool false]) w := by kernel_rfl
theorem ta_sort_count (v : Value) (w : World) : (Instr.typeAssert (.iface 98 v) 77 101 true).run Tryd.prog w = .ok (.tuple #[.agg #[], .bool false]) w := by kernel_rfl
theorem ta_sort_fail (v : Value) (w : World) : (Instr.typeAssert (.iface 98 v) 77 102 true).run Tryd.prog w = .ok (.tuple #[.agg #[], .bool false]) w := by kernel_rfl
theorem ta_drop_cat (v : Value) (w : World) : (Instr.typeAssert (.iface 100 v) 77 86 true).run Tryd.prog w = .ok (.tuple #[.agg #[.int .i64 0], .bool false]) w := by kernel_rfl
theorem ta_drop_text (v : Value) (w : World) : (Instr.typeAssert (.iface 100 v) 77 95 true).run Tryd.prog w = .ok (.tuple #[.agg #[.string ByteArray.empty], .bool false]) w := by kernel_rfl
theorem ta_drop_upper (v : Value) (w : World) : (Instr.typeAssert (.iface 100 v) 77 97 true).run Tryd.prog w = .ok (.tuple #[.agg #[], .bool false]) w := by kernel_rfl
theorem ta_drop_sort (v : Value) (w : World) : (Instr.typeAssert (.iface 100 v) 77 98 true).run Tryd.prog w = .ok (.tuple #[.agg #[], .bool false]) w := by kernel_rfl
theorem ta_drop_drop (v : Value) (w : World) : (Instr.typeAssert (.iface 100 v) 77 100 true).run Tryd.prog w = .ok (.tuple #[v, .bool true]) w := by kernel_rfl
theorem ta_drop_count (v : Value) (w : World) : (Instr.typeAssert (.iface 100 v) 77 101 true).run Tryd.prog w = .ok (.tuple #[.agg #[], .bool false]) w := by kernel_rfl
theorem ta_drop_fail (v : Value) (w : World) : (Instr.typeAssert (.iface 100 v) 77 102 true).run Tryd.prog w = .ok (.tuple #[.agg #[], .bool false]) w := by kernel_rfl
theorem ta_count_cat (v : Value) (w : World) : (Instr.typeAssert (.iface 101 v) 77 86 true).run Tryd.prog w = .ok (.tuple #[.agg #[.int .i64 0], .bool false]) w := by kernel_rfl
theorem ta_count_text (v : Value) (w : World) : (Instr.typeAssert (.iface 101 v) 77 95 true).run Tryd.prog w = .ok (.tuple #[.agg #[.string ByteArray.empty], .bool false]) w := by kernel_rfl
theorem ta_count_upper (v : Value) (w : World) : (Instr.typeAssert (.iface 101 v) 77 97 true).run Tryd.prog w = .ok (.tuple #[.agg #[], .bool false]) w := by kernel_rfl
theorem ta_count_sort (v : Value) (w : World) : (Instr.typeAssert (.iface 101 v) 77 98 true).run Tryd.prog w = .ok (.tuple #[.agg #[], .bool false]) w := by kernel_rfl
theorem ta_count_drop (v : Value) (w : World) : (Instr.typeAssert (.iface 101 v) 77 100 true).run Tryd.prog w = .ok (.tuple #[.agg #[.int .i64 0], .bool false]) w := by kernel_rfl
theorem ta_count_count (v : Value) (w : World) : (Instr.typeAssert (.iface 101 v) 77 101 true).run Tryd.prog w = .ok (.tuple #[v, .bool true]) w := by kernel_rfl
theorem ta_count_fail (v : Value) (w : World) : (Instr.typeAssert (.iface 101 v) 77 102 true).run Tryd.prog w = .ok (.tuple #[.agg #[], .bool false]) w := by kernel_rfl
theorem ta_fail_cat (v : Value) (w : World) : (Instr.typeAssert (.iface 102 v) 77 86 true).run Tryd.prog w = .ok (.tuple #[.agg #[.int .i64 0], .bool false]) w := by kernel_rfl
theorem ta_fail_text (v : Value) (w : World) : (Instr.typeAssert (.iface 102 v) 77 95 true).run Tryd.prog w = .ok (.tuple #[.agg #[.string ByteArray.empty], .bool false]) w := by kernel_rfl
theorem ta_fail_upper (v : Value) (w : World) : (Instr.typeAssert (.iface 102 v) 77 97 true).run Tryd.prog w = .ok (.tuple #[.agg #[], .bool false]) w := by kernel_rfl
theorem ta_fail_sort (v : Value) (w : World) : (Instr.typeAssert (.iface 102 v) 77 98 true).run Tryd.prog w = .ok (.tuple #[.agg #[], .bool false]) w := by kernel_rfl
theorem ta_fail_drop (v : Value) (w : World) : (Instr.typeAssert (.iface 102 v) 77 100 true).run Tryd.prog w = .ok (.tuple #[.agg #[.int .i64 0], .bool false]) w := by kernel_rfl
theorem ta_fail_count (v : Value) (w : World) : (Instr.typeAssert (.iface 102 v) 77 101 true).run Tryd.prog w = .ok (.tuple #[.agg #[], .bool false]) w := by kernel_rfl
theorem ta_fail_fail (v : Value) (w : World) : (Instr.typeAssert (.iface 102 v) 77 102 true).run Tryd.prog w = .ok (.tuple #[v, .bool true]) w := by kernel_rfl

end Go.Proofs.YtnnojeoehomadaaDoor

/- Walks: the program's deeds, one by one. -/
namespace Go.Proofs.YtnnojeoehomadaaDoor
open Go.RowKit Pth

def catV (n : Int) : Value := .iface 86 (.agg #[.int .i64 n])
def textV (t : List UInt8) : Value := .iface 95 (.agg #[.string ⟨t.toArray⟩])
def upperV : Value := .iface 97 (.agg #[])
def sortV : Value := .iface 98 (.agg #[])
def dropV (n : Int) : Value := .iface 100 (.agg #[.int .i64 n])
def countV : Value := .iface 101 (.agg #[])
def failV : Value := .iface 102 (.agg #[])
/-- A deed is told. -/
def DeedPost (d : Value) (b : Bool) (w : World) (e : Ending) (w' : World) : Prop := e = .returned (.tuple #[d, .bool b]) ∧ Below w.heap.size w w'
/-- An op is told. -/
def OpPost (o : OpT) (w : World) (e : Ending) (w' : World) : Prop := e = .returned (opV o) ∧ Below w.heap.size w w'
/-- A bool is handed back; what lay there lies there. -/
def BPost (b : Bool) (w : World) (e : Ending) (w' : World) : Prop := e = .returned (.bool b) ∧ Below w.heap.size w w'

set_option maxRecDepth 20000 in
set_option maxHeartbeats 2000000 in
theorem deedOf_cat (n : Int) (t : List UInt8) (w : World) : Calls Tryd.prog 45 #[opV (1, n, t)] w (DeedPost (catV n) true w) := by
  unfold opV catV
  simp only
  have HB := Lib.hid ((Below.refl w.heap.size w).alloc (Nat.le_refl _) (.cells #[.int .i64 1, .int .i64 n, .string ⟨t.toArray⟩] 30))
  go_enter Tryd.func45, Tryd.ntmps45
  go_wp2_with fail
  go_ret2
  exact ⟨rfl, HB.out⟩

set_option maxRecDepth 20000 in
set_option maxHeartbeats 2000000 in
theorem asOp_cat (n : Int) (w : World) : Calls Tryd.prog 123 #[.agg #[.int .i64 n]] w (OpPost (1, n, []) w) := by
  unfold OpPost opV
  simp only
  go_enter Tryd.func123, Tryd.ntmps123
  go_wp2_with fail
  refine bodyPost_ret (results_cell rfl rfl (load_op (x := .int .i64 1) (y := .int .i64 n) (z := .string ⟨#[]⟩) (by go_simp) (by go_simp) (by go_simp))) rfl ?_
  exact ⟨rfl, ((Below.refl w.heap.size w).alloc (Nat.le_refl _) _).alloc (by simp) _⟩

set_option maxRecDepth 20000 in
set_option maxHeartbeats 2000000 in
theorem range_cat (n ins : Int) (w : World) : Calls Tryd.prog 46 #[catV n, .int .i64 ins] w (BPost (decide (0 ≤ n) && decide (n < ins)) w) := by
  unfold catV
  have HB := Lib.hid ((Below.refl w.heap.size w).alloc (Nat.le_refl _) (.cells #[.int .i64 n] 86))
  have qcat := ta_cat_cat (.agg #[.int .i64 n])
  obtain ⟨b1, hb1⟩ : ∃ b, decide (0 ≤ n) = b := ⟨_, rfl⟩
  obtain ⟨b2, hb2⟩ : ∃ b, decide (n < ins) = b := ⟨_, rfl⟩
  have HT : Hid ((decide (0 ≤ n) && decide (n < ins)) = (b1 && b2)) := by rw [hb1, hb2]; rfl
  rw [HT.out]
  rcases b1 with _ | _ <;> rcases b2 with _ | _ <;>
    (go_enter Tryd.func46, Tryd.ntmps46
     go_wp2_with fail
     go_ret
     exact ⟨rfl, HB.out⟩)

set_option maxRecDepth 20000 in
set_option maxHeartbeats 2000000 in
theorem deedOf_text (n : Int) (t : List UInt8) (w : World) : Calls Tryd.prog 45 #[opV (2, n, t)] w (DeedPost (textV t) true w) := by
  unfold opV textV
  simp only
  have HB := Lib.hid ((Below.refl w.heap.size w).alloc (Nat.le_refl _) (.cells #[.int .i64 2, .int .i64 n, .string ⟨t.toArray⟩] 30))
  go_enter Tryd.func45, Tryd.ntmps45
  go_wp2_with fail
  go_ret2
  exact ⟨rfl, HB.out⟩

set_option maxRecDepth 20000 in
set_option maxHeartbeats 2000000 in
theorem asOp_text (t : List UInt8) (w : World) : Calls Tryd.prog 124 #[.agg #[.string ⟨t.toArray⟩]] w (OpPost (2, 0, t) w) := by
  unfold OpPost opV
  simp only
  go_enter Tryd.func124, Tryd.ntmps124
  go_wp2_with fail
  refine bodyPost_ret (results_cell rfl rfl (load_op (x := .int .i64 2) (y := .int .i64 0) (z := .string ⟨t.toArray⟩) (by go_simp) (by go_simp) (by go_simp))) rfl ?_
  exact ⟨rfl, ((Below.refl w.heap.size w).alloc (Nat.le_refl _) _).alloc (by simp) _⟩

set_option maxRecDepth 20000 in
set_option maxHeartbeats 2000000 in
theorem range_text (t : List UInt8) (ins : Int) (w : World) : Calls Tryd.prog 46 #[textV t, .int .i64 ins] w (BPost (decide (t.length ≤ 10)) w) := by
  unfold textV
  have HB := Lib.hid ((Below.refl w.heap.size w).alloc (Nat.le_refl _) (.cells #[.string ⟨t.toArray⟩] 95))
  have qcat := ta_text_cat (.agg #[.string ⟨t.toArray⟩])
  have qtext := ta_text_text (.agg #[.string ⟨t.toArray⟩])
  obtain ⟨b2, hb2⟩ : ∃ b, decide ((t.length : Int) ≤ 10) = b := ⟨_, rfl⟩
  have HT : Hid (decide (t.length ≤ 10) = b2) := by rw [← hb2]; exact decide_eq_decide.2 (by omega)
  rw [HT.out]
  rcases b2 with _ | _ <;>
    (go_enter Tryd.func46, Tryd.ntmps46
     go_wp2_with fail
     go_ret
     exact ⟨rfl, HB.out⟩)

set_option maxRecDepth 20000 in
set_option maxHeartbeats 2000000 in
theorem deedOf_upper (n : Int) (t : List UInt8) (w : World) : Calls Tryd.prog 45 #[opV (3, n, t)] w (DeedPost (upperV) true w) := by
  unfold opV upperV
  simp only
  have HB := Lib.hid ((Below.refl w.heap.size w).alloc (Nat.le_refl _) (.cells #[.int .i64 3, .int .i64 n, .string ⟨t.toArray⟩] 30))
  go_enter Tryd.func45, Tryd.ntmps45
  go_wp2_with fail
  go_ret2
  exact ⟨rfl, HB.out⟩

set_option maxRecDepth 20000 in
set_option maxHeartbeats 2000000 in
theorem asOp_upper (w : World) : Calls Tryd.prog 125 #[.agg #[]] w (OpPost (3, 0, []) w) := by
  unfold OpPost opV
  simp only
  go_enter Tryd.func125, Tryd.ntmps125
  go_wp2_with fail
  refine bodyPost_ret (results_cell rfl rfl (load_op (x := .int .i64 3) (y := .int .i64 0) (z := .string ⟨#[]⟩) (by go_simp) (by go_simp) (by go_simp))) rfl ?_
  exact ⟨rfl, ((Below.refl w.heap.size w).alloc (Nat.le_refl _) _).alloc (by simp) _⟩

set_option maxRecDepth 20000 in
set_option maxHeartbeats 2000000 in
theorem range_upper (ins : Int) (w : World) : Calls Tryd.prog 46 #[upperV, .int .i64 ins] w (BPost true w) := by
  unfold upperV
  have qcat := ta_upper_cat (.agg #[])
  have qtext := ta_upper_text (.agg #[])
  have qdrop := ta_upper_drop (.agg #[])
  go_enter Tryd.func46, Tryd.ntmps46
  go_wp2_with fail
  go_ret
  exact ⟨rfl, Below.refl _ _⟩

set_option maxRecDepth 20000 in
set_option maxHeartbeats 2000000 in
theorem deedOf_sort (n : Int) (t : List UInt8) (w : World) : Calls Tryd.prog 45 #[opV (4, n, t)] w (DeedPost (sortV) true w) := by
  unfold opV sortV
  simp only
  have HB := Lib.hid ((Below.refl w.heap.size w).alloc (Nat.le_refl _) (.cells #[.int .i64 4, .int .i64 n, .string ⟨t.toArray⟩] 30))
  go_enter Tryd.func45, Tryd.ntmps45
  go_wp2_with fail
  go_ret2
  exact ⟨rfl, HB.out⟩

set_option maxRecDepth 20000 in
set_option maxHeartbeats 2000000 in
theorem asOp_sort (w : World) : Calls Tryd.prog 126 #[.agg #[]] w (OpPost (4, 0, []) w) := by
  unfold OpPost opV
  simp only
  go_enter Tryd.func126, Tryd.ntmps126
  go_wp2_with fail
  refine bodyPost_ret (results_cell rfl rfl (load_op (x := .int .i64 4) (y := .int .i64 0) (z := .string ⟨#[]⟩) (by go_simp) (by go_simp) (by go_simp))) rfl ?_
  exact ⟨rfl, ((Below.refl w.heap.size w).alloc (Nat.le_refl _) _).alloc (by simp) _⟩

set_option maxRecDepth 20000 in
set_option maxHeartbeats 2000000 in
theorem range_sort (ins : Int) (w : World) : Calls Tryd.prog 46 #[sortV, .int .i64 ins] w (BPost true w) := by
  unfold sortV
  have qcat := ta_sort_cat (.agg #[])
  have qtext := ta_sort_text (.agg #[])
  have qdrop := ta_sort_drop (.agg #[])
  go_enter Tryd.func46, Tryd.ntmps46
  go_wp2_with fail
  go_ret
  exact ⟨rfl, Below.refl _ _⟩

set_option maxRecDepth 20000 in
set_option maxHeartbeats 2000000 in
theorem deedOf_drop (n : Int) (t : List UInt8) (w : World) : Calls Tryd.prog 45 #[opV (5, n, t)] w (DeedPost (dropV n) true w) := by
  unfold opV dropV
  simp only
  have HB := Lib.hid ((Below.refl w.heap.size w).alloc (Nat.le_refl _) (.cells #[.int .i64 5, .int .i64 n, .string ⟨t.toArray⟩] 30))
  go_enter Tryd.func45, Tryd.ntmps45
  go_wp2_with fail
  go_ret2
  exact ⟨rfl, HB.out⟩

set_option maxRecDepth 20000 in
set_option maxHeartbeats 2000000 in
theorem asOp_drop (n : Int) (w : World) : Calls Tryd.prog 127 #[.agg #[.int .i64 n]] w (OpPost (5, n, []) w) := by
  unfold OpPost opV
  simp only
  go_enter Tryd.func127, Tryd.ntmps127
  go_wp2_with fail
  refine bodyPost_ret (results_cell rfl rfl (load_op (x := .int .i64 5) (y := .int .i64 n) (z := .string ⟨#[]⟩) (by go_simp) (by go_simp) (by go_simp))) rfl ?_
  exact ⟨rfl, ((Below.refl w.heap.size w).alloc (Nat.le_refl _) _).alloc (by simp) _⟩

set_option maxRecDepth 20000 in
set_option maxHeartbeats 2000000 in
theorem range_drop (n ins : Int) (w : World) : Calls Tryd.prog 46 #[dropV n, .int .i64 ins] w (BPost (decide (0 ≤ n) && decide (n ≤ 40)) w) := by
  unfold dropV
  have HB := Lib.hid ((Below.refl w.heap.size w).alloc (Nat.le_refl _) (.cells #[.int .i64 n] 100))
  have qcat := ta_drop_cat (.agg #[.int .i64 n])
  have qtext := ta_drop_text (.agg #[.int .i64 n])
  have qdrop := ta_drop_drop (.agg #[.int .i64 n])
  obtain ⟨b1, hb1⟩ : ∃ b, decide (0 ≤ n) = b := ⟨_, rfl⟩
  obtain ⟨b2, hb2⟩ : ∃ b, decide (n ≤ 40) = b := ⟨_, rfl⟩
  have HT : Hid ((decide (0 ≤ n) && decide (n ≤ 40)) = (b1 && b2)) := by rw [hb1, hb2]; rfl
  rw [HT.out]
  rcases b1 with _ | _ <;> rcases b2 with _ | _ <;>
    (go_enter Tryd.func46, Tryd.ntmps46
     go_wp2_with fail
     go_ret
     exact ⟨rfl, HB.out⟩)

set_option maxRecDepth 20000 in
set_option maxHeartbeats 2000000 in
theorem deedOf_count (n : Int) (t : List UInt8) (w : World) : Calls Tryd.prog 45 #[opV (6, n, t)] w (DeedPost (countV) true w) := by
  unfold opV countV
  simp only
  have HB := Lib.hid ((Below.refl w.heap.size w).alloc (Nat.le_refl _) (.cells #[.int .i64 6, .int .i64 n, .string ⟨t.toArray⟩] 30))
  go_enter Tryd.func45, Tryd.ntmps45
  go_wp2_with fail
  go_ret2
  exact ⟨rfl, HB.out⟩

set_option maxRecDepth 20000 in
set_option maxHeartbeats 2000000 in
theorem asOp_count (w : World) : Calls Tryd.prog 128 #[.agg #[]] w (OpPost (6, 0, []) w) := by
  unfold OpPost opV
  simp only
  go_enter Tryd.func128, Tryd.ntmps128
  go_wp2_with fail
  refine bodyPost_ret (results_cell rfl rfl (load_op (x := .int .i64 6) (y := .int .i64 0) (z := .string ⟨#[]⟩) (by go_simp) (by go_simp) (by go_simp))) rfl ?_
  exact ⟨rfl, ((Below.refl w.heap.size w).alloc (Nat.le_refl _) _).alloc (by simp) _⟩

set_option maxRecDepth 20000 in
set_option maxHeartbeats 2000000 in
theorem range_count (ins : Int) (w : World) : Calls Tryd.prog 46 #[countV, .int .i64 ins] w (BPost true w) := by
  unfold countV
  have qcat := ta_count_cat (.agg #[])
  have qtext := ta_count_text (.agg #[])
  have qdrop := ta_count_drop (.agg #[])
  go_enter Tryd.func46, Tryd.ntmps46
  go_wp2_with fail
  go_ret
  exact ⟨rfl, Below.refl _ _⟩

set_option maxRecDepth 20000 in
set_option maxHeartbeats 2000000 in
theorem deedOf_fail (n : Int) (t : List UInt8) (w : World) : Calls Tryd.prog 45 #[opV (7, n, t)] w (DeedPost (failV) true w) := by
  unfold opV failV
  simp only
  have HB := Lib.hid ((Below.refl w.heap.size w).alloc (Nat.le_refl _) (.cells #[.int .i64 7, .int .i64 n, .string ⟨t.toArray⟩] 30))
  go_enter Tryd.func45, Tryd.ntmps45
  go_wp2_with fail
  go_ret2
  exact ⟨rfl, HB.out⟩

set_option maxRecDepth 20000 in
set_option maxHeartbeats 2000000 in
theorem asOp_fail (w : World) : Calls Tryd.prog 129 #[.agg #[]] w (OpPost (7, 0, []) w) := by
  unfold OpPost opV
  simp only
  go_enter Tryd.func129, Tryd.ntmps129
  go_wp2_with fail
  refine bodyPost_ret (results_cell rfl rfl (load_op (x := .int .i64 7) (y := .int .i64 0) (z := .string ⟨#[]⟩) (by go_simp) (by go_simp) (by go_simp))) rfl ?_
  exact ⟨rfl, ((Below.refl w.heap.size w).alloc (Nat.le_refl _) _).alloc (by simp) _⟩

set_option maxRecDepth 20000 in
set_option maxHeartbeats 2000000 in
theorem range_fail (ins : Int) (w : World) : Calls Tryd.prog 46 #[failV, .int .i64 ins] w (BPost true w) := by
  unfold failV
  have qcat := ta_fail_cat (.agg #[])
  have qtext := ta_fail_text (.agg #[])
  have qdrop := ta_fail_drop (.agg #[])
  go_enter Tryd.func46, Tryd.ntmps46
  go_wp2_with fail
  go_ret
  exact ⟨rfl, Below.refl _ _⟩

set_option maxRecDepth 20000 in
set_option maxHeartbeats 2000000 in
theorem deedOf_none (k n : Int) (t : List UInt8) (w : World) (h1 : k ≠ 1) (h2 : k ≠ 2) (h3 : k ≠ 3) (h4 : k ≠ 4) (h5 : k ≠ 5) (h6 : k ≠ 6) (h7 : k ≠ 7) : Calls Tryd.prog 45 #[opV (k, n, t)] w (DeedPost .nilIface false w) := by
  unfold opV
  simp only
  have HB := Lib.hid ((Below.refl w.heap.size w).alloc (Nat.le_refl _) (.cells #[.int .i64 k, .int .i64 n, .string ⟨t.toArray⟩] 30))
  have e1 : (k == 1) = false := by simpa using h1
  have e2 : (k == 2) = false := by simpa using h2
  have e3 : (k == 3) = false := by simpa using h3
  have e4 : (k == 4) = false := by simpa using h4
  have e5 : (k == 5) = false := by simpa using h5
  have e6 : (k == 6) = false := by simpa using h6
  have e7 : (k == 7) = false := by simpa using h7
  clear h1 h2 h3 h4 h5 h6 h7
  go_enter Tryd.func45, Tryd.ntmps45
  go_wp2_with fail
  go_ret2
  exact ⟨rfl, HB.out⟩

end Go.Proofs.YtnnojeoehomadaaDoor

/- Walks: the program's deeds of a recipe. -/
namespace Go.Proofs.YtnnojeoehomadaaDoor
open Go.RowKit Pth

def asO (o : OpT) : OpT := if o.1 = 1 then (1, o.2.1, []) else if o.1 = 2 then (2, 0, o.2.2) else if o.1 = 5 then (5, o.2.1, []) else (o.1, 0, [])
def rangeB (ins : Int) (o : OpT) : Bool := if o.1 = 1 then decide (0 ≤ o.2.1) && decide (o.2.1 < ins) else if o.1 = 2 then decide (o.2.2.length ≤ 10) else if o.1 = 5 then decide (0 ≤ o.2.1) && decide (o.2.1 ≤ 40) else true
def deedV (o : OpT) : Value :=
  if o.1 = 1 then catV o.2.1 else if o.1 = 2 then textV o.2.2 else if o.1 = 3 then upperV else if o.1 = 4 then sortV else if o.1 = 5 then dropV o.2.1 else if o.1 = 6 then countV else if o.1 = 7 then failV else .nilIface
def knownB (o : OpT) : Bool := decide (1 ≤ o.1) && decide (o.1 ≤ 7)
theorem as_cat {n : Int} {t : List UInt8} : decide (asO (1, n, t) = (1, n, t)) = decide (t = []) := decide_eq_decide.2 (by simp [asO, eq_comm])
theorem as_text {n : Int} {t : List UInt8} : decide (asO (2, n, t) = (2, n, t)) = decide (n = 0) := decide_eq_decide.2 (by simp [asO, eq_comm])
theorem as_drop {n : Int} {t : List UInt8} : decide (asO (5, n, t) = (5, n, t)) = decide (t = []) := decide_eq_decide.2 (by simp [asO, eq_comm])
theorem as_bare {k n : Int} {t : List UInt8} (h1 : k ≠ 1) (h2 : k ≠ 2) (h5 : k ≠ 5) : decide (asO (k, n, t) = (k, n, t)) = (decide (n = 0) && decide (t = [])) := by
  rw [← Bool.decide_and]
  refine decide_eq_decide.2 ?_
  simp only [asO, if_neg h1, if_neg h2, if_neg h5, Prod.mk.injEq, true_and]
  rw [eq_comm (a := (0 : Int)), eq_comm (a := ([] : List UInt8))]
theorem opOk_is (ins : Int) (o : OpT) : opOk ins o = (knownB o && (decide (asO o = o) && rangeB ins o)) := by
  obtain ⟨k, n, t⟩ := o
  by_cases h1 : k = 1
  · subst h1
    rw [opOk_cat, as_cat]
    have e : decide (n ≤ ins - 1) = decide (n < ins) := decide_eq_decide.2 (by omega)
    rw [e]
    simp only [knownB, rangeB, if_true]
    rw [Bool.and_comm]; rfl
  by_cases h2 : k = 2
  · subst h2
    rw [opOk_text, as_text]
    rfl
  by_cases h5 : k = 5
  · subst h5
    rw [opOk_drop, as_drop]
    simp only [knownB, rangeB]
    rw [Bool.and_comm]; rfl
  by_cases h3 : k = 3 ∨ k = 4 ∨ k = 6 ∨ k = 7
  · rw [opOk_bare h3, as_bare h1 h2 h5]
    have e1 : knownB (k, n, t) = true := by simp only [knownB, Bool.and_eq_true, decide_eq_true_eq]; omega
    rw [e1, rangeB, if_neg h1, if_neg h2, if_neg h5]
    simp
  · have h3' : k ≠ 3 ∧ k ≠ 4 ∧ k ≠ 6 ∧ k ≠ 7 := by omega
    rw [opOk_none h1 h2 h3'.1 h3'.2.1 h5 h3'.2.2.1 h3'.2.2.2]
    have : knownB (k, n, t) = false := by
      simp only [knownB, Bool.and_eq_false_iff, decide_eq_false_iff_not]
      omega
    rw [this]; rfl

def DC (r : List OpT) : List Value := r.map deedV
theorem DC_len (r : List OpT) : (DC r).length = r.length := by simp [DC]
theorem elemD : Elem 57 77 .nilIface 16 := ⟨Tryd.underlying57, by kernel_rfl, rfl, by decide⟩
theorem deedOf_any (o : OpT) (w : World) : Calls Tryd.prog 45 #[opV o] w (DeedPost (deedV o) (knownB o) w) := by
  obtain ⟨k, n, t⟩ := o
  by_cases h1 : k = 1
  · subst h1; exact deedOf_cat n t w
  by_cases h2 : k = 2
  · subst h2; exact deedOf_text n t w
  by_cases h3 : k = 3
  · subst h3; exact deedOf_upper n t w
  by_cases h4 : k = 4
  · subst h4; exact deedOf_sort n t w
  by_cases h5 : k = 5
  · subst h5; exact deedOf_drop n t w
  by_cases h6 : k = 6
  · subst h6; exact deedOf_count n t w
  by_cases h7 : k = 7
  · subst h7; exact deedOf_fail n t w
  have e : deedV (k, n, t) = .nilIface := by simp [deedV, h1, h2, h3, h4, h5, h6, h7]
  have e2 : knownB (k, n, t) = false := by
    simp only [knownB, Bool.and_eq_false_iff, decide_eq_false_iff_not]
    omega
  rw [e, e2]
  exact deedOf_none k n t w h1 h2 h3 h4 h5 h6 h7


theorem neq_op (o p : OpT) (w : World) : (binOp .neq 30 (opV o) (opV p)).run Tryd.prog w = .ok (.bool (!decide (o = p))) w := by
  obtain ⟨k, n, t⟩ := o
  obtain ⟨k', n', t'⟩ := p
  unfold opV
  go_simp
  by_cases h1 : k = k' <;> by_cases h2 : n = n' <;> by_cases h3 : t = t' <;> simp [h1, h2, h3]

/-- What is known of a deed. -/
structure DeedAt (o : OpT) (T : TypeId) (v : Value) (K : FuncId) : Prop where
  val : deedV o = .iface T v
  meth : ∀ (F : Nat) (w : World), (method (F + 1) T v "loop.example/g00636/impl.asOp").run Tryd.prog w = .ok (K, v) w
  ent : ∀ w : World, (callFunc K #[v]).run Tryd.prog w = .ok (.enter K #[v]) w
  told : ∀ w : World, Calls Tryd.prog K #[v] w (OpPost (asO o) w)
  rng : ∀ (ins : Int) (w : World), Calls Tryd.prog 46 #[.iface T v, .int .i64 ins] w (BPost (rangeB ins o) w)
theorem deed_at {o : OpT} (h : knownB o = true) : ∃ T v K, DeedAt o T v K := by
  obtain ⟨k, n, t⟩ := o
  simp only [knownB, Bool.and_eq_true, decide_eq_true_eq] at h
  have hk : k = 1 ∨ k = 2 ∨ k = 3 ∨ k = 4 ∨ k = 5 ∨ k = 6 ∨ k = 7 := by omega
  rcases hk with rfl | rfl | rfl | rfl | rfl | rfl | rfl
  · exact ⟨86, (.agg #[.int .i64 n]), 123, rfl, fun _ _ => by kernel_rfl, fun _ => by kernel_rfl, fun w => asOp_cat n w, fun ins w => range_cat n ins w⟩
  · exact ⟨95, (.agg #[.string ⟨t.toArray⟩]), 124, rfl, fun _ _ => by kernel_rfl, fun _ => by kernel_rfl, fun w => asOp_text t w, fun ins w => range_text t ins w⟩
  · exact ⟨97, (.agg #[]), 125, rfl, fun _ _ => by kernel_rfl, fun _ => by kernel_rfl, fun w => asOp_upper w, fun ins w => range_upper ins w⟩
  · exact ⟨98, (.agg #[]), 126, rfl, fun _ _ => by kernel_rfl, fun _ => by kernel_rfl, fun w => asOp_sort w, fun ins w => range_sort ins w⟩
  · exact ⟨100, (.agg #[.int .i64 n]), 127, rfl, fun _ _ => by kernel_rfl, fun _ => by kernel_rfl, fun w => asOp_drop n w, fun ins w => range_drop n ins w⟩
  · exact ⟨101, (.agg #[]), 128, rfl, fun _ _ => by kernel_rfl, fun _ => by kernel_rfl, fun w => asOp_count w, fun ins w => range_count ins w⟩
  · exact ⟨102, (.agg #[]), 129, rfl, fun _ _ => by kernel_rfl, fun _ => by kernel_rfl, fun w => asOp_fail w, fun ins w => range_fail ins w⟩

end Go.Proofs.YtnnojeoehomadaaDoor

/- A region that draws its order, whose first operations come in one forced order (a call that makes memory among them) and whose others only read: one walk in the order of the text. -/
namespace Go.Proofs.YtnnojeoehomadaaDoor
open Go.RowKit

theorem oper_wp_Q {P : Program} {o : Oper} {a : Act} {w : World} {K : Act → World → Prop} {Q Q' : Exit → Act → World → Prop} (hq : ∀ e a w, e ≠ .normal → Q e a w → Q' e a w) (hh : o.wp P a w K Q) : o.wp P a w K Q' := by
  unfold Oper.wp at *
  generalize (execOp a.eval o).run P w = r at *
  cases r with
  | ok n w' =>
    cases n <;> simp only [Oper.upon] at hh ⊢ <;>
      first
        | exact hh
        | exact Calls.mono hh (fun e w'' he => by cases e <;> first | exact he | exact hq _ _ _ (by simp) he | exact (let ⟨a, w, h⟩ := he; ⟨a, w, hq _ _ _ (by simp) h⟩))
  | halt x w' => cases x <;> simp only [Oper.upon] at hh ⊢ <;> first | exact hh | exact hq _ _ _ (by simp) hh

theorem lets_Q {Q Q' : Exit → Act → World → Prop} (hq : ∀ e a w, e ≠ .normal → Q e a w → Q' e a w) (h : LetsOut Q) : LetsOut Q' :=
  let ⟨a, w, h⟩ := h; ⟨a, w, hq _ _ _ (by simp) h⟩

theorem wpOp_Q {P : Program} {ops : Array Oper} {i : Nat} {a : Act} {w : World} {K : Act → World → Prop} {Q Q' : Exit → Act → World → Prop} (hq : ∀ e a w, e ≠ .normal → Q e a w → Q' e a w) (hh : wpOp P ops Q i K a w) : wpOp P ops Q' i K a w := by
  unfold wpOp at *
  split
  · simpa [*] using hh
  · rename_i o ho
    simp only [ho] at hh
    split
    · rename_i hw; simp only [hw, if_true] at hh; exact hh.imp (oper_wp_Q hq) (fun h => ⟨h.1, lets_Q hq h.2⟩)
    · rename_i hw; simp only [hw] at hh; exact hh

/-- T behind the head, Q at whatever else. -/
def Then (T : Act → World → Prop) (Q : Exit → Act → World → Prop) : Exit → Act → World → Prop
  | .normal, a, w => T a w
  | e, a, w => Q e a w
theorem then_normal {T : Act → World → Prop} {Q : Exit → Act → World → Prop} {a : Act} {w : World} (h : T a w) : Then T Q .normal a w := h
theorem then_Q {T : Act → World → Prop} {Q : Exit → Act → World → Prop} : ∀ e a w, e ≠ .normal → Then T Q e a w → Q e a w := fun e a w he h => by
  cases e <;> first | exact absurd rfl he | exact h

def headB (ops : Array Oper) : Nat → Nat → Array Bool → Bool
  | 0, _, _ => true
  | g + 1, k, listed => decide (Region.ready .any ops listed = [k]) && headB ops g (k + 1) (listed.setIfInBounds k true)
def setAll : Nat → Nat → Array Bool → Array Bool
  | 0, _, listed => listed
  | g + 1, k, listed => setAll g (k + 1) (listed.setIfInBounds k true)

theorem wpAny_head {P : Program} {ops : Array Oper} {T : Act → World → Prop} {Q : Exit → Act → World → Prop} {r : Nat} : ∀ (l : List Oper) (k : Nat) (listed : Array Bool) (a : Act) (w : World), (∀ j, j < l.length → l[j]? = ops[k + j]?) →
    headB ops l.length k listed = true → (∀ a w, T a w → wpAny P .any ops Q r (setAll l.length k listed) a w) → wpList P ops (Then T Q) l a w → wpAny P .any ops Q (l.length + r) listed a w
  | [], _, _, _, _, _, _, hT, h => by
    simp only [List.length_nil, Nat.zero_add]
    exact hT _ _ h
  | o :: l, k, listed, a, w, hl, hB, hT, h => by
    have h0 : ops[k]? = some o := by have := hl 0 (by simp); simpa using this.symm
    simp only [List.length_cons, headB, Bool.and_eq_true, decide_eq_true_eq] at hB
    have e : (o :: l).length + r = (l.length + r) + 1 := by simp only [List.length_cons]; omega
    rw [e]
    refine ⟨fun h1 => (by rw [hB.1] at h1; cases h1), fun i hi => ?_⟩
    rw [hB.1] at hi
    have hik : i = k := by simpa using hi
    subst hik
    have hw : wpOp P ops (Then T Q) i (wpList P ops (Then T Q) l) a w := by unfold wpOp; simp only [h0]; exact h
    exact wpOp_Q then_Q (wpOp_mono (fun a' w' h' => wpAny_head l (i + 1) _ a' w' (fun j hj => by have := hl (j + 1) (by simp; omega); simpa [Nat.add_assoc, Nat.add_comm 1 j] using this) hB.2 hT h') hw)

theorem wp_region_head_quiet {P : Program} {id : Nat} {Q : Exit → Act → World → Prop} {a : Act} {w : World} {l : List Oper} (n : Nat) (hm : P.follows .mixedOrders = true) (hs : Region.noSelect l.toArray = true)
    (hH : headB l.toArray (l.take n).length 0 (Array.replicate l.toArray.size false) = true) (hL : Region.lexFrom .any l.toArray (l.drop n).length n (setAll (l.take n).length 0 (Array.replicate l.toArray.size false)) = true) (hn : n ≤ l.length)
    (h : wpList P l.toArray (Then (fun a' w' => wpQuiet P l.toArray (fun x => ∃ m, x = w'.drewN m) (fun a'' => ∀ x, (∃ m, x = w'.drewN m) → Q .normal a'' x) (l.drop n) a') Q) (l.take n) a { w with drawn := w.drawn + 1 }) : (Code.region id l.toArray true).wp P Q a w := by
  have htl : (l.take n).length = n := by rw [List.length_take]; omega
  refine wp_region_any hm ?_
  have H := wpAny_head (Q := Q) (r := (l.drop n).length) (l.take n) 0 (Array.replicate l.toArray.size false) a { w with drawn := w.drawn + 1 } (fun j hj => by
    rw [htl] at hj
    simp [hj]) hH (fun a' w' h' => ?_) h
  · have e : (l.take n).length + (l.drop n).length = l.toArray.size := by rw [htl, List.length_drop]; simp; omega
    rw [e] at H
    exact H
  · refine wpAny_of_quiet (C := fun x => ∃ m, x = w'.drewN m) (Q := fun a'' => ∀ x, (∃ m, x = w'.drewN m) → Q .normal a'' x) (fun a w hw h => h w hw) _ _ _ _ ⟨0, rfl⟩ ?_
    exact wpAnyQ_lex hs (l.drop n) n _ _ (fun j => by simp [List.getElem?_drop]) hL h'

end Go.Proofs.YtnnojeoehomadaaDoor

/- A region that draws its order, in which behind a forced head a call that makes memory and a load may change places, and whose others only read: three walks. -/
namespace Go.Proofs.YtnnojeoehomadaaDoor
open Go.RowKit

/-- Behind those that are listed: n and n + 2 may come, n + 1 behind n; nothing else ahead of all three. -/
def diaB (ops : Array Oper) (n : Nat) (L : Array Bool) : Bool :=
  decide (Region.ready .any ops L = [n, n + 2]) && (decide (Region.ready .any ops (L.setIfInBounds n true) = [n + 1, n + 2]) && (decide (Region.ready .any ops (L.setIfInBounds (n + 2) true) = [n]) &&
  (decide (Region.ready .any ops ((L.setIfInBounds n true).setIfInBounds (n + 1) true) = [n + 2]) && (decide (Region.ready .any ops ((L.setIfInBounds n true).setIfInBounds (n + 2) true) = [n + 1]) && (decide (Region.ready .any ops ((L.setIfInBounds (n + 2) true).setIfInBounds n true) = [n + 1]) &&
  (decide (((L.setIfInBounds n true).setIfInBounds (n + 2) true).setIfInBounds (n + 1) true = ((L.setIfInBounds n true).setIfInBounds (n + 1) true).setIfInBounds (n + 2) true) &&
  decide (((L.setIfInBounds (n + 2) true).setIfInBounds n true).setIfInBounds (n + 1) true = ((L.setIfInBounds n true).setIfInBounds (n + 1) true).setIfInBounds (n + 2) true)))))))

theorem wpAny_one {P : Program} {ops : Array Oper} {Q : Exit → Act → World → Prop} {r i : Nat} {L : Array Bool} {a : Act} {w : World} (hr : Region.ready .any ops L = [i]) (h : wpOp P ops Q i (wpAny P .any ops Q r (L.setIfInBounds i true)) a w) : wpAny P .any ops Q (r + 1) L a w := by
  refine ⟨fun h1 => (by rw [hr] at h1; cases h1), fun j hj => ?_⟩
  rw [hr] at hj
  have hj' : j = i := by simpa using hj
  subst hj'
  exact h
theorem wpAny_two {P : Program} {ops : Array Oper} {Q : Exit → Act → World → Prop} {r i k : Nat} {L : Array Bool} {a : Act} {w : World} (hr : Region.ready .any ops L = [i, k]) (h : wpOp P ops Q i (wpAny P .any ops Q r (L.setIfInBounds i true)) a w) (h' : wpOp P ops Q k (wpAny P .any ops Q r (L.setIfInBounds k true)) a w) : wpAny P .any ops Q (r + 1) L a w := by
  refine ⟨fun h1 => (by rw [hr] at h1; cases h1), fun j hj => ?_⟩
  rw [hr] at hj
  have hj' : j = i ∨ j = k := by simpa using hj
  rcases hj' with rfl | rfl
  · exact h
  · exact h'
theorem wpOp_of_list {P : Program} {ops : Array Oper} {Q Q' : Exit → Act → World → Prop} {i : Nat} {o : Oper} {rest : List Oper} {K : Act → World → Prop} {a : Act} {w : World} (ho : ops[i]? = some o) (hq : ∀ e a w, e ≠ .normal → Q' e a w → Q e a w)
    (hk : ∀ a w, wpList P ops Q' rest a w → K a w) (h : wpList P ops Q' (o :: rest) a w) : wpOp P ops Q i K a w := by
  have h1 : wpOp P ops Q' i (wpList P ops Q' rest) a w := by unfold wpOp; simp only [ho]; exact h
  exact wpOp_Q hq (wpOp_mono hk h1)

theorem wpOp_last {P : Program} {ops : Array Oper} {T : Act → World → Prop} {Q : Exit → Act → World → Prop} {i : Nat} {o : Oper} {K : Act → World → Prop} {a : Act} {w : World} (ho : ops[i]? = some o) (hT : ∀ a w, T a w → K a w) (h : wpList P ops (Then T Q) [o] a w) : wpOp P ops Q i K a w :=
  wpOp_of_list (rest := []) ho then_Q (fun a w k => hT a w k) h
theorem wpOp_more {P : Program} {ops : Array Oper} {T : Act → World → Prop} {Q : Exit → Act → World → Prop} {i : Nat} {o p : Oper} {rest : List Oper} {K : Act → World → Prop} {a : Act} {w : World} (ho : ops[i]? = some o) (hT : ∀ a w, wpList P ops (Then T Q) (p :: rest) a w → K a w) (h : wpList P ops (Then T Q) (o :: p :: rest) a w) : wpOp P ops Q i K a w :=
  wpOp_of_list (rest := p :: rest) ho then_Q hT h
theorem wpAny_dia {P : Program} {ops : Array Oper} {T : Act → World → Prop} {Q : Exit → Act → World → Prop} {r n : Nat} {L : Array Bool} {a : Act} {w : World} {x y z : Oper} (hx : ops[n]? = some x) (hy : ops[n + 1]? = some y) (hz : ops[n + 2]? = some z)
    (hD : diaB ops n L = true) (hT : ∀ a w, T a w → wpAny P .any ops Q r (((L.setIfInBounds n true).setIfInBounds (n + 1) true).setIfInBounds (n + 2) true) a w)
    (h1 : wpList P ops (Then (fun a w => wpList P ops (Then T Q) [y, z] a w ∧ wpList P ops (Then T Q) [z, y] a w) Q) [x] a w) (h3 : wpList P ops (Then T Q) [z, x, y] a w) : wpAny P .any ops Q (r + 3) L a w := by
  simp only [diaB, Bool.and_eq_true, decide_eq_true_eq] at hD
  obtain ⟨d1, d2, d3, d4, d5, d6, d7, d8⟩ := hD
  refine wpAny_two d1 ?_ ?_
  · refine wpOp_last hx (fun a w k => ?_) h1
    obtain ⟨k1, k2⟩ : wpList P ops (Then T Q) [y, z] a w ∧ wpList P ops (Then T Q) [z, y] a w := k
    exact wpAny_two d2 (wpOp_more hy (fun a w k => wpAny_one d4 (wpOp_last hz hT k)) k1)
      (wpOp_more hz (fun a w k => wpAny_one d5 (wpOp_last hy (fun a w k => by rw [d7]; exact hT a w k) k)) k2)
  · exact wpOp_more hz (fun a w k => wpAny_one d3 (wpOp_more hx (fun a w k => wpAny_one d6 (wpOp_last hy (fun a w k => by rw [d8]; exact hT a w k) k)) k)) h3

/-- What is left behind the three: it only reads. -/
def Quiets (P : Program) (l : List Oper) (m : Nat) (Q : Exit → Act → World → Prop) (a : Act) (w : World) : Prop :=
  wpQuiet P l.toArray (fun x => ∃ j, x = w.drewN j) (fun a' => ∀ x, (∃ j, x = w.drewN j) → Q .normal a' x) (l.drop m) a

theorem wp_region_dia {P : Program} {id : Nat} {Q : Exit → Act → World → Prop} {a : Act} {w : World} {l : List Oper} (n : Nat) (x y z : Oper) (hx : l[n]? = some x) (hy : l[n + 1]? = some y) (hz : l[n + 2]? = some z) (hm : P.follows .mixedOrders = true) (hs : Region.noSelect l.toArray = true)
    (hH : headB l.toArray (l.take n).length 0 (Array.replicate l.toArray.size false) = true) (hD : diaB l.toArray n (setAll (l.take n).length 0 (Array.replicate l.toArray.size false)) = true)
    (hL : Region.lexFrom .any l.toArray (l.drop (n + 3)).length (n + 3) ((((setAll (l.take n).length 0 (Array.replicate l.toArray.size false)).setIfInBounds n true).setIfInBounds (n + 1) true).setIfInBounds (n + 2) true) = true) (hn : n + 3 ≤ l.length)
    (h : wpList P l.toArray (Then (fun a' w' => wpList P l.toArray (Then (fun a w => wpList P l.toArray (Then (Quiets P l (n + 3) Q) Q) [y, z] a w ∧ wpList P l.toArray (Then (Quiets P l (n + 3) Q) Q) [z, y] a w) Q) [x] a' w' ∧ wpList P l.toArray (Then (Quiets P l (n + 3) Q) Q) [z, x, y] a' w') Q) (l.take n) a { w with drawn := w.drawn + 1 }) : (Code.region id l.toArray true).wp P Q a w := by
  have htl : (l.take n).length = n := by rw [List.length_take]; omega
  refine wp_region_any hm ?_
  have H := wpAny_head (Q := Q) (r := (l.drop (n + 3)).length + 3) (l.take n) 0 (Array.replicate l.toArray.size false) a { w with drawn := w.drawn + 1 } (fun j hj => by
    rw [htl] at hj
    simp [hj]) hH (fun a' w' h' => wpAny_dia (by simpa using hx) (by simpa using hy) (by simpa using hz) hD (fun a w hq => ?_) h'.1 h'.2) h
  · have e : (l.take n).length + ((l.drop (n + 3)).length + 3) = l.toArray.size := by rw [htl, List.length_drop]; simp; omega
    rw [e] at H
    exact H
  · refine wpAny_of_quiet (C := fun x => ∃ m, x = w.drewN m) (Q := fun a'' => ∀ x, (∃ m, x = w.drewN m) → Q .normal a'' x) (fun a w hw h => h w hw) _ _ _ _ ⟨0, rfl⟩ ?_
    exact wpAnyQ_lex hs (l.drop (n + 3)) (n + 3) _ _ (fun j => by simp [List.getElem?_drop]) hL hq

end Go.Proofs.YtnnojeoehomadaaDoor

/- Walks: the program's deeds of a recipe, and whether it is good. -/
namespace Go.Proofs.YtnnojeoehomadaaDoor
open Go.RowKit Pth

/-- Deeds and whether they stand are handed back, in memory of the call's own. -/
def DeedsPost (r : List OpT) (ok : Bool) (w : World) (e : Ending) (w' : World) : Prop :=
  ∃ v, e = .returned (.tuple #[v, .bool ok]) ∧ w'.ownsRow w.heap.size 77 1 v (if ok then r else []).length (DC (if ok then r else [])) ∧ Below w.heap.size w w'
theorem none_ownD (w : World) (B e : Nat) : w.ownsRow B e 1 (.slice none 0 0) 0 [] := ⟨rfl, .inl ⟨rfl, rfl⟩⟩
theorem DC_next {r : List OpT} {k : Nat} (hk : k < r.length) : DC (r.take (k + 1)) = DC (r.take k) ++ [deedV r[k]] := by
  rw [List.take_succ_eq_append_getElem hk]; unfold DC; rw [List.map_append]; rfl
theorem deedOf_b {o : OpT} {T : TypeId} {v : Value} (h : deedV o = .iface T v) (hk : knownB o = true) (w : World) : Calls Tryd.prog 45 #[opV o] w (DeedPost (.iface T v) true w) := by
  have := deedOf_any o w; rwa [h, hk] at this
theorem deedOf_n {o : OpT} (hk : knownB o = false) (w : World) : Calls Tryd.prog 45 #[opV o] w fun e w' => ∃ d, e = .returned (.tuple #[d, .bool false]) ∧ Below w.heap.size w w' := by
  have := deedOf_any o w
  rw [hk] at this
  exact this.mono fun e w' h => ⟨_, h⟩

theorem deeds_bad {r : List OpT} {ok : Bool} {w w' : World} (h : ok = false) (hb : Below w.heap.size w w') : DeedsPost r ok w (.returned (.tuple #[.slice none 0 0, .bool false])) w' := by
  subst h
  exact ⟨_, rfl, none_ownD _ _ _, hb⟩
theorem deeds_good {r : List OpT} {ok : Bool} {w w' : World} {v : Value} (h : ok = true) (hn : w'.ownsRow w.heap.size 77 1 v r.length (DC r)) (hb : Below w.heap.size w w') : DeedsPost r ok w (.returned (.tuple #[v, .bool true])) w' := by
  subst h
  exact ⟨_, rfl, hn, hb⟩

set_option maxRecDepth 20000 in
set_option maxHeartbeats 4000000 in
theorem deedsOf_any (r : List OpT) (ins : Int) (v : Value) (w : World) (hrow : RowO w v r) :
    Calls Tryd.prog 31 #[v, .int .i64 ins] w (DeedsPost r (goodR r ins) w) := by
  obtain ⟨a, cap, rfl, hc1, hc2, hat⟩ := hrow.ops
  clear hrow
  unfold maxLen at hc2
  by_cases h8 : 8 < r.length
  · rw [goodR_long h8]
    have hd : decide ((r.length : Int) > 8) = true := decide_eq_true (by omega)
    clear hat
    go_enter Tryd.func31, Tryd.ntmps31
    go_wp2_with fail
    go_ret2
    exact ⟨_, rfl, none_ownD _ _ _, Below.refl _ _⟩
  have hd : decide ((r.length : Int) > 8) = false := decide_eq_false (by omega)
  by_cases hi0 : 0 ≤ ins
  · have d1 : decide (ins < 0) = false := decide_eq_false (by omega)
    by_cases hi1 : ins ≤ 10
    · have d2 : decide (ins > 10) = false := decide_eq_false (by omega)
      go_enter Tryd.func31, Tryd.ntmps31
      go_wp2_with fail
      go_loopw [6, 24] (fun q i wr => ∃ k : Nat, k ≤ r.length ∧ i = .int .i64 k ∧ Hid (Below w.heap.size w wr) ∧ Hid ((r.take k).all (opOk ins) = true) ∧ Hid (wr.ownsRow w.heap.size 77 1 q (DC (r.take k)).length (DC (r.take k)))) (fun _ i _ => r.length - (intOf i).toNat)
      case atStart => exact ⟨0, Nat.zero_le _, rfl, Below.refl _ _, by simp [Hid], none_ownD _ _ _⟩
      case round =>
        obtain ⟨k, hk, rfl, HB, HO, HN⟩ := hrel
        have hbs := HB.out.size
        have hdl : (DC (r.take k)).length ≤ 8 := by rw [DC_len, List.length_take]; omega
        by_cases hlt : k < r.length
        · obtain ⟨g, o, rfl, hg, hcell1, hcell2, hcell3⟩ := hat k hlt
          have s1 := (HB.out.cell (p := ⟨g, o + k * 3, none⟩) hg).trans hcell1
          have s2 := (HB.out.cell (p := ⟨g, o + k * 3 + 1, none⟩) hg).trans hcell2
          have s3 := (HB.out.cell (p := ⟨g, o + k * 3 + 2, none⟩) hg).trans hcell3
          obtain ⟨wa, hwa⟩ : ∃ wa, wa = wr.alloc (.cells #[.int .i64 r[k].1, .int .i64 r[k].2.1, .string ⟨r[k].2.2.toArray⟩] 30) := ⟨_, rfl⟩
          have HBA : Hid (Below w.heap.size w wa) := by rw [hwa]; exact HB.out.alloc hbs _
          have HNA := Lib.hid (HN.out.alloc (.cells #[.int .i64 r[k].1, .int .i64 r[k].2.1, .string ⟨r[k].2.2.toArray⟩] 30))
          rw [← hwa] at HNA
          have hsz : wr.heap.size < wa.heap.size := by rw [hwa]; simp
          have p0 : wa.cell? ⟨wr.heap.size, 0, none⟩ = some (.int .i64 r[k].1) := by rw [hwa]; simp
          have p1 : wa.cell? ⟨wr.heap.size, 1, none⟩ = some (.int .i64 r[k].2.1) := by rw [hwa]; simp
          have p2 : wa.cell? ⟨wr.heap.size, 2, none⟩ = some (.string ⟨r[k].2.2.toArray⟩) := by rw [hwa]; simp
          have HWA := Lib.hid hwa
          have HIS := Lib.hid (opOk_is ins r[k])
          have HNX := Lib.hid (DC_next hlt)
          have HGB := Lib.hid (fun h => goodR_bad (ins := ins) hlt h)
          have HGG := Lib.hid (fun h => all_next hlt HO.out h)
          clear hcell1 hcell2 hcell3 hat HO HN hwa HB
          generalize r[k] = x at s1 s2 s3 HWA HIS HNX HGB HGG p0 p1 p2
          rcases hkn : knownB x with _ | _
          · have HC := Lib.hid (fun W => deedOf_n hkn W)
            have HG := Lib.hid (HGB.out (by rw [HIS.out, hkn]; rfl))
            clear HIS HNX HGB HGG hkn HNA
            obtain ⟨x1, x2, x3⟩ := x
            unfold opV at HC
            simp only at s1 s2 s3 HC HWA p0 p1 p2
            go_wp2_with fail
            rw [← HWA.out]
            refine (HC.out _).mono ?_
            rintro e w1 ⟨d, rfl, hb1⟩
            have HB1 := Lib.hid (HBA.out.trans (hb1.mono HBA.out.size))
            clear hb1 HC
            go_wp2_with fail
            go_quiet (fail)
            go_wp2_with fail
            go_ret2
            exact deeds_bad HG.out (below_drewN HB1.out _)
          · obtain ⟨T, dv, K, D⟩ := deed_at hkn
            have HC := Lib.hid (fun W => deedOf_b D.val hkn W)
            have hme := D.meth
            have hen := D.ent
            have HAS := Lib.hid D.told
            have HRG := Lib.hid (D.rng ins)
            have HV := Lib.hid D.val
            have hnq := fun W => neq_op (asO x) x W
            obtain ⟨b, hb⟩ : ∃ b, decide (asO x = x) = b := ⟨_, rfl⟩
            have HOK : Hid (opOk ins x = (b && rangeB ins x)) := by rw [HIS.out, hkn, hb]; rfl
            rw [hb] at hnq
            clear HIS hkn D hb
            generalize asO x = y at HAS hnq
            generalize rangeB ins x = rb at HRG HOK
            rcases b with _ | _
            · have HG := Lib.hid (HGB.out HOK.out)
              simp only [Bool.not_false] at hnq
              clear HOK HGB HGG HNX HRG HNA HV
              obtain ⟨x1, x2, x3⟩ := x
              obtain ⟨y1, y2, y3⟩ := y
              unfold opV at HC hnq
              unfold OpPost opV at HAS
              simp only at s1 s2 s3 HC HWA p0 p1 p2 HAS hnq
              go_wp2_with fail
              rw [← HWA.out]
              refine (HC.out _).mono ?_
              rintro e w1 ⟨rfl, hb1⟩
              have HB1 := Lib.hid (HBA.out.trans (hb1.mono HBA.out.size))
              have c0 := (hb1.cell (p := ⟨wr.heap.size, 0, none⟩) hsz).trans p0
              have c1 := (hb1.cell (p := ⟨wr.heap.size, 1, none⟩) hsz).trans p1
              have c2 := (hb1.cell (p := ⟨wr.heap.size, 2, none⟩) hsz).trans p2
              have hsz1 : wr.heap.size < w1.heap.size := Nat.lt_of_lt_of_le hsz hb1.size
              clear hb1 HC p0 p1 p2
              go_wp2_with fail
              refine wp_region_dia 3 _ _ _ rfl rfl rfl (by kernel_rfl) (by kernel_rfl) (by kernel_rfl) (by kernel_rfl) (by kernel_rfl) (by decide) ?_
              simp only [List.take_succ_cons, List.take_zero]
              go_wp2_with fail
              refine then_normal ⟨?_, ?_⟩
              · go_wp2_with fail
                refine then_normal ⟨?_, ?_⟩
                · go_wp2_with fail
                  refine (HAS.out _).mono ?_
                  rintro e w5 ⟨rfl, hb5⟩
                  have k0 := (hb5.cell (p := ⟨wr.heap.size, 0, none⟩) hsz1).trans c0
                  have k1 := (hb5.cell (p := ⟨wr.heap.size, 1, none⟩) hsz1).trans c1
                  have k2 := (hb5.cell (p := ⟨wr.heap.size, 2, none⟩) hsz1).trans c2
                  have HB5 := Lib.hid ((Below.drew HB1.out).trans (hb5.mono HB1.out.size))
                  clear hb5
                  go_wp2_with fail
                  refine then_normal ?_
                  unfold Quiets
                  simp only [List.drop_succ_cons, List.drop_zero]
                  repeat (go_big_quiet_step (fail))
                  refine wpQuiet_nil ?_
                  intro _ hw'
                  obtain ⟨nq, hw''⟩ := hw'
                  subst hw''
                  go_wp2_with fail
                  go_ret2
                  exact deeds_bad HG.out (below_drewN HB5.out nq)
                · go_wp2_with fail
                  refine (HAS.out _).mono ?_
                  rintro e w5 ⟨rfl, hb5⟩
                  have k0 := (hb5.cell (p := ⟨wr.heap.size, 0, none⟩) hsz1).trans c0
                  have k1 := (hb5.cell (p := ⟨wr.heap.size, 1, none⟩) hsz1).trans c1
                  have k2 := (hb5.cell (p := ⟨wr.heap.size, 2, none⟩) hsz1).trans c2
                  have HB5 := Lib.hid ((Below.drew HB1.out).trans (hb5.mono HB1.out.size))
                  clear hb5
                  go_wp2_with fail
                  refine then_normal ?_
                  unfold Quiets
                  simp only [List.drop_succ_cons, List.drop_zero]
                  repeat (go_big_quiet_step (fail))
                  refine wpQuiet_nil ?_
                  intro _ hw'
                  obtain ⟨nq, hw''⟩ := hw'
                  subst hw''
                  go_wp2_with fail
                  go_ret2
                  exact deeds_bad HG.out (below_drewN HB5.out nq)
              · go_wp2_with fail
                refine (HAS.out _).mono ?_
                rintro e w5 ⟨rfl, hb5⟩
                have k0 := (hb5.cell (p := ⟨wr.heap.size, 0, none⟩) hsz1).trans c0
                have k1 := (hb5.cell (p := ⟨wr.heap.size, 1, none⟩) hsz1).trans c1
                have k2 := (hb5.cell (p := ⟨wr.heap.size, 2, none⟩) hsz1).trans c2
                have HB5 := Lib.hid ((Below.drew HB1.out).trans (hb5.mono HB1.out.size))
                clear hb5
                go_wp2_with fail
                refine then_normal ?_
                unfold Quiets
                simp only [List.drop_succ_cons, List.drop_zero]
                repeat (go_big_quiet_step (fail))
                refine wpQuiet_nil ?_
                intro _ hw'
                obtain ⟨nq, hw''⟩ := hw'
                subst hw''
                go_wp2_with fail
                go_ret2
                exact deeds_bad HG.out (below_drewN HB5.out nq)
            · simp only [Bool.not_true] at hnq
              rcases rb with _ | _
              · have HG := Lib.hid (HGB.out HOK.out)
                clear HOK HGB HGG HNX HNA HV
                obtain ⟨x1, x2, x3⟩ := x
                obtain ⟨y1, y2, y3⟩ := y
                unfold opV at HC hnq
                unfold OpPost opV at HAS
                simp only at s1 s2 s3 HC HWA p0 p1 p2 HAS hnq
                go_wp2_with fail
                rw [← HWA.out]
                refine (HC.out _).mono ?_
                rintro e w1 ⟨rfl, hb1⟩
                have HB1 := Lib.hid (HBA.out.trans (hb1.mono HBA.out.size))
                have c0 := (hb1.cell (p := ⟨wr.heap.size, 0, none⟩) hsz).trans p0
                have c1 := (hb1.cell (p := ⟨wr.heap.size, 1, none⟩) hsz).trans p1
                have c2 := (hb1.cell (p := ⟨wr.heap.size, 2, none⟩) hsz).trans p2
                have hsz1 : wr.heap.size < w1.heap.size := Nat.lt_of_lt_of_le hsz hb1.size
                clear hb1 HC p0 p1 p2
                go_wp2_with fail
                go_region_held3 (fun w' => w'.cell? ⟨wr.heap.size, 0, none⟩ = some (.int .i64 x1) ∧ w'.cell? ⟨wr.heap.size, 1, none⟩ = some (.int .i64 x2) ∧ w'.cell? ⟨wr.heap.size, 2, none⟩ = some (.string ⟨x3.toArray⟩)) (first | exact ⟨c0, c1, c2⟩ | exact ks | exact kt)
                  (first | (go_at_call 46; refine (HRG.out _).mono ?_; rintro e w6 ⟨rfl, hb6⟩; have HB6 := Lib.hid (HB5.out.trans (hb6.mono HB5.out.size)); have kt := And.intro ((hb6.cell (p := ⟨wr.heap.size, 0, none⟩) (World.block_lt_of_cell? _ _ ks.1)).trans ks.1) (And.intro ((hb6.cell (p := ⟨wr.heap.size, 1, none⟩) (World.block_lt_of_cell? _ _ ks.2.1)).trans ks.2.1) ((hb6.cell (p := ⟨wr.heap.size, 2, none⟩) (World.block_lt_of_cell? _ _ ks.2.2)).trans ks.2.2)); clear hb6) | (refine (HAS.out _).mono ?_; rintro e w5 ⟨rfl, hb5⟩; have ks := And.intro ((hb5.cell (p := ⟨wr.heap.size, 0, none⟩) hsz1).trans c0) (And.intro ((hb5.cell (p := ⟨wr.heap.size, 1, none⟩) hsz1).trans c1) ((hb5.cell (p := ⟨wr.heap.size, 2, none⟩) hsz1).trans c2)); have HB5 := Lib.hid ((Below.drew HB1.out).trans (hb5.mono HB1.out.size)); clear hb5))
                all_goals
                  go_wp2_with fail
                  go_ret2
                  exact deeds_bad HG.out HB6.out
              · have HG := Lib.hid (HGG.out HOK.out)
                clear HOK HGB HGG
                obtain ⟨x1, x2, x3⟩ := x
                obtain ⟨y1, y2, y3⟩ := y
                rw [HV.out] at HNX
                clear HV
                unfold opV at HC hnq
                unfold OpPost opV at HAS
                simp only at s1 s2 s3 HC HWA p0 p1 p2 HAS hnq
                go_wp2_with fail
                rw [← HWA.out]
                refine (HC.out _).mono ?_
                rintro e w1 ⟨rfl, hb1⟩
                have HB1 := Lib.hid (HBA.out.trans (hb1.mono HBA.out.size))
                have HN1 := Lib.hid (own_below HNA.out hb1)
                have c0 := (hb1.cell (p := ⟨wr.heap.size, 0, none⟩) hsz).trans p0
                have c1 := (hb1.cell (p := ⟨wr.heap.size, 1, none⟩) hsz).trans p1
                have c2 := (hb1.cell (p := ⟨wr.heap.size, 2, none⟩) hsz).trans p2
                have hsz1 : wr.heap.size < w1.heap.size := Nat.lt_of_lt_of_le hsz hb1.size
                clear hb1 HC p0 p1 p2 HNA
                go_wp2_with fail
                go_region_held3 (fun w' => w'.cell? ⟨wr.heap.size, 0, none⟩ = some (.int .i64 x1) ∧ w'.cell? ⟨wr.heap.size, 1, none⟩ = some (.int .i64 x2) ∧ w'.cell? ⟨wr.heap.size, 2, none⟩ = some (.string ⟨x3.toArray⟩)) (first | exact ⟨c0, c1, c2⟩ | exact ks | exact kt)
                  (first | (go_at_call 46; refine (HRG.out _).mono ?_; rintro e w6 ⟨rfl, hb6⟩; have HB6 := Lib.hid (HB5.out.trans (hb6.mono HB5.out.size)); have HN6 := Lib.hid (own_below HN5.out hb6); have kt := And.intro ((hb6.cell (p := ⟨wr.heap.size, 0, none⟩) (World.block_lt_of_cell? _ _ ks.1)).trans ks.1) (And.intro ((hb6.cell (p := ⟨wr.heap.size, 1, none⟩) (World.block_lt_of_cell? _ _ ks.2.1)).trans ks.2.1) ((hb6.cell (p := ⟨wr.heap.size, 2, none⟩) (World.block_lt_of_cell? _ _ ks.2.2)).trans ks.2.2)); clear hb6) | (refine (HAS.out _).mono ?_; rintro e w5 ⟨rfl, hb5⟩; have ks := And.intro ((hb5.cell (p := ⟨wr.heap.size, 0, none⟩) hsz1).trans c0) (And.intro ((hb5.cell (p := ⟨wr.heap.size, 1, none⟩) hsz1).trans c1) ((hb5.cell (p := ⟨wr.heap.size, 2, none⟩) hsz1).trans c2)); have HB5 := Lib.hid ((Below.drew HB1.out).trans (hb5.mono HB1.out.size)); have HN5 := Lib.hid (own_below (show w1.drew.ownsRow _ _ _ _ _ _ from HN1.out) hb5); clear hb5))
                all_goals
                  go_wp2_with (at_builtin; refine wpAppOne elemD rfl _ _ rfl w.heap.size _ (DC (r.take k)) rfl HN6.out _ rfl rfl rfl (by omega) HB6.out.size ?_; intro v7 w7 hown7 hg7; have HN7 := Lib.hid hown7; have HB7 := Lib.hid (HB6.out.trans (below_own HN6.out hg7 HB6.out.size)); clear hown7 hg7)
                  go_roundw
                  case rel => exact ⟨k + 1, by omega, by go_num, HB7, HG, by rw [HNX.out]; exact HN7.out⟩
                  case measure => simp [intOf]; omega
        · have HG := Lib.hid (goodR_end hi0 hi1 (by omega) (by omega : r.length ≤ k) HO.out)
          rw [List.take_of_length_le (by omega), DC_len] at HN
          clear HO hat
          go_wp2_with fail
          go_ret2
          exact deeds_good HG.out HN.out HB.out
    · have d2 : decide (ins > 10) = true := decide_eq_true (by omega)
      rw [goodR_ins (by omega)]
      clear hat
      go_enter Tryd.func31, Tryd.ntmps31
      go_wp2_with fail
      go_ret2
      exact ⟨_, rfl, none_ownD _ _ _, Below.refl _ _⟩
  · have d1 : decide (ins < 0) = true := decide_eq_true (by omega)
    rw [goodR_ins (by omega)]
    clear hat
    go_enter Tryd.func31, Tryd.ntmps31
    go_wp2_with fail
    go_ret2
    exact ⟨_, rfl, none_ownD _ _ _, Below.refl _ _⟩

end Go.Proofs.YtnnojeoehomadaaDoor

/- Walks: the program's deeds on texts. -/
namespace Go.Proofs.YtnnojeoehomadaaDoor
open Go.RowKit Pth

theorem runOk_is (r : List OpT) (ins : List (List UInt8)) : runOk r ins = (goodR r ins.length && !longL ins) := by
  rcases hg : goodR r (ins.length : Int) with _ | _
  · simp [runOk, hg]
  · have h10 : ins.length ≤ 10 := by have := (goodR_iff.1 hg).2.1; omega
    rcases hl : longL ins with _ | _
    · rw [longL, List.any_eq_false] at hl
      have : textsL ins = true := by
        simp only [textsL, Bool.and_eq_true, List.all_eq_true, decide_eq_true_eq]
        exact ⟨fun x hx => by have := hl x hx; simp at this; omega, h10⟩
      simp [runOk, hg, this]
    · rw [longL, List.any_eq_true] at hl
      obtain ⟨x, hx, hx2⟩ := hl
      have : textsL ins = false := by
        simp only [textsL, Bool.and_eq_false_iff]
        exact .inl (List.all_eq_false.2 ⟨x, hx, by simp at hx2 ⊢; omega⟩)
      simp [runOk, this]

set_option maxRecDepth 20000 in
set_option maxHeartbeats 1000000 in
theorem deedsOn_any (r : List OpT) (ins : List (List UInt8)) (v u : Value) (w : World) (hrow : RowO w v r) (hins : RowV w u (S ins)) (hx : ∀ x ∈ ins, x.length ≤ maxLen) :
    Calls Tryd.prog 26 #[v, u] w (DeedsPost r (runOk r ins) w) := by
  rw [runOk_is]
  have HD := Lib.hid (deedsOf_any r (ins.length : Int) v w hrow)
  have HL := Lib.hid (fun (W : World) (hb : Below w.heap.size w W) => contains_any ins u W (hins.below hb) hx)
  obtain ⟨a, cap, rfl, hc1, hc2, hat⟩ := hins.texts
  clear hins hat hx hrow
  unfold maxLen at hc2
  rcases hg : goodR r (ins.length : Int) with _ | _
  · rw [hg] at HD
    clear hg
    go_enter Tryd.func26, Tryd.ntmps26
    go_wp2_with fail
    refine HD.out.mono ?_
    rintro e w1 ⟨d, rfl, _, hb⟩
    go_wp2_with fail
    go_ret2
    exact deeds_bad rfl hb
  · rw [hg] at HD
    clear hg
    rcases hl : longL ins with _ | _
    · rw [hl] at HL
      clear hl
      go_enter Tryd.func26, Tryd.ntmps26
      go_wp2_with fail
      refine HD.out.mono ?_
      rintro e w1 ⟨d, rfl, hn, hb⟩
      have HC := Lib.hid (HL.out w1 hb)
      have HN := Lib.hid hn
      have HB := Lib.hid hb
      clear hn hb HL
      go_wp2_with fail
      refine HC.out.mono ?_
      rintro e w2 ⟨rfl, rfl⟩
      go_wp2_with fail
      go_ret2
      exact deeds_good rfl HN.out HB.out
    · rw [hl] at HL
      clear hl
      go_enter Tryd.func26, Tryd.ntmps26
      go_wp2_with fail
      refine HD.out.mono ?_
      rintro e w1 ⟨d, rfl, hn, hb⟩
      have HC := Lib.hid (HL.out w1 hb)
      have HB := Lib.hid hb
      clear hn hb HL
      go_wp2_with fail
      refine HC.out.mono ?_
      rintro e w2 ⟨rfl, rfl⟩
      go_wp2_with fail
      go_ret2
      exact deeds_bad rfl HB.out

end Go.Proofs.YtnnojeoehomadaaDoor

/- Walks: the program's doDeed, a kind each. -/
namespace Go.Proofs.YtnnojeoehomadaaDoor
open Go.RowKit Pth

set_option maxRecDepth 20000 in
set_option maxHeartbeats 2000000 in
theorem do_upper (n : Int) (t : List UInt8) (ins : List (List UInt8)) (u : Value) (acc : List UInt8) (w : World) (ha : acc.length ≤ 40) :
    Calls Tryd.prog 42 #[upperV, u, .string ⟨acc.toArray⟩] w (StepPost (rawT (3, n, t) ins acc) w) := by
  have HT := Lib.hid (show rawT (3, n, t) ins acc = some (upT acc) by simp [rawT])
  have HC := Lib.hid (fun W => upper_any acc W (by omega))
  unfold upperV
  have qcat := ta_upper_cat (.agg #[])
  have qtext := ta_upper_text (.agg #[])
  have qupper := ta_upper_upper (.agg #[])
  go_enter Tryd.func42, Tryd.ntmps42
  go_wp2_with fail
  refine (HC.out _).mono ?_
  rintro e w1 ⟨rfl, hb⟩
  have HB := Lib.hid (below_new hb)
  clear hb
  go_wp2_with fail
  go_ret2
  exact ⟨by rw [HT.out]; rfl, HB.out⟩

set_option maxRecDepth 20000 in
set_option maxHeartbeats 2000000 in
theorem do_sort (n : Int) (t : List UInt8) (ins : List (List UInt8)) (u : Value) (acc : List UInt8) (w : World) (ha : acc.length ≤ 40) :
    Calls Tryd.prog 42 #[sortV, u, .string ⟨acc.toArray⟩] w (StepPost (rawT (4, n, t) ins acc) w) := by
  have HT := Lib.hid (show rawT (4, n, t) ins acc = some (sortT acc) by simp [rawT])
  have HC := Lib.hid (fun W => sortBytes_any acc W (by omega))
  unfold sortV
  have qcat := ta_sort_cat (.agg #[])
  have qtext := ta_sort_text (.agg #[])
  have qupper := ta_sort_upper (.agg #[])
  have qsort := ta_sort_sort (.agg #[])
  go_enter Tryd.func42, Tryd.ntmps42
  go_wp2_with fail
  refine (HC.out _).mono ?_
  rintro e w1 ⟨rfl, hb⟩
  have HB := Lib.hid (below_new hb)
  clear hb
  go_wp2_with fail
  go_ret2
  exact ⟨by rw [HT.out]; rfl, HB.out⟩

set_option maxRecDepth 20000 in
set_option maxHeartbeats 2000000 in
theorem do_count (n : Int) (t : List UInt8) (ins : List (List UInt8)) (u : Value) (acc : List UInt8) (w : World) (ha : acc.length ≤ 40) :
    Calls Tryd.prog 42 #[countV, u, .string ⟨acc.toArray⟩] w (StepPost (rawT (6, n, t) ins acc) w) := by
  have HT := Lib.hid (show rawT (6, n, t) ins acc = some (numT acc.length) by simp [rawT])
  have HC := Lib.hid (fun W => itoa_any acc.length W (by omega))
  unfold countV
  have qcat := ta_count_cat (.agg #[])
  have qtext := ta_count_text (.agg #[])
  have qupper := ta_count_upper (.agg #[])
  have qsort := ta_count_sort (.agg #[])
  have qdrop := ta_count_drop (.agg #[])
  have qcount := ta_count_count (.agg #[])
  go_enter Tryd.func42, Tryd.ntmps42
  go_wp2_with fail
  refine (HC.out _).mono ?_
  rintro e w1 ⟨rfl, rfl⟩
  go_wp2_with fail
  go_ret2
  exact ⟨by rw [HT.out]; rfl, (Below.refl _ _).alloc (Nat.le_refl _) _⟩

set_option maxRecDepth 20000 in
set_option maxHeartbeats 2000000 in
theorem do_fail (n : Int) (t : List UInt8) (ins : List (List UInt8)) (u : Value) (acc : List UInt8) (w : World) :
    Calls Tryd.prog 42 #[failV, u, .string ⟨acc.toArray⟩] w (StepPost (rawT (7, n, t) ins acc) w) := by
  have HT := Lib.hid (show rawT (7, n, t) ins acc = none by simp [rawT])
  unfold failV
  have qcat := ta_fail_cat (.agg #[])
  have qtext := ta_fail_text (.agg #[])
  have qupper := ta_fail_upper (.agg #[])
  have qsort := ta_fail_sort (.agg #[])
  have qdrop := ta_fail_drop (.agg #[])
  have qcount := ta_fail_count (.agg #[])
  have qfail := ta_fail_fail (.agg #[])
  go_enter Tryd.func42, Tryd.ntmps42
  go_wp2_with fail
  go_ret2
  exact ⟨by rw [HT.out]; rfl, (Below.refl _ _).alloc (Nat.le_refl _) _⟩

set_option maxRecDepth 20000 in
set_option maxHeartbeats 2000000 in
theorem do_text (n : Int) (t : List UInt8) (ins : List (List UInt8)) (u : Value) (acc : List UInt8) (w : World) (ha : acc.length ≤ 40) (ht : t.length ≤ 10) :
    Calls Tryd.prog 42 #[textV t, u, .string ⟨acc.toArray⟩] w (StepPost (rawT (2, n, t) ins acc) w) := by
  have HT := Lib.hid (show rawT (2, n, t) ins acc = some (acc ++ t) by simp [rawT])
  unfold textV
  have qcat := ta_text_cat (.agg #[.string ⟨t.toArray⟩])
  have qtext := ta_text_text (.agg #[.string ⟨t.toArray⟩])
  go_enter Tryd.func42, Tryd.ntmps42
  go_wp2_with fail
  go_ret2
  exact ⟨by rw [HT.out]; show _ = Ending.returned (.tuple #[.string ⟨(acc ++ t).toArray⟩, .bool true]); rw [← data_app]; rfl, (Below.refl _ _).alloc (Nat.le_refl _) _⟩

set_option maxRecDepth 20000 in
set_option maxHeartbeats 2000000 in
theorem do_cat (ins : List (List UInt8)) (n : Nat) (t : List UInt8) (u : Value) (acc : List UInt8) (w : World) (hrow : RowV w u (S ins)) (ha : acc.length ≤ 40) (hn : n < ins.length) (hx : ∀ x ∈ ins, x.length ≤ 40) (hi : ins.length ≤ 10) :
    Calls Tryd.prog 42 #[catV n, u, .string ⟨acc.toArray⟩] w (StepPost (rawT (1, n, t) ins acc) w) := by
  obtain ⟨a, cap, rfl, hc1, hc2, hat⟩ := hrow.texts
  clear hrow
  obtain ⟨g, o, rfl, hg, hcell⟩ := hat n hn
  have hxl := hx ins[n] (List.getElem_mem hn)
  have hcell2 : (w.alloc (.cells #[.int .i64 (n : Int)] 86)).cell? ⟨g, o + n, none⟩ = some (.string ⟨ins[n].toArray⟩) := by rw [World.cell?_alloc_lt _ _ _ hg]; exact hcell
  have HT := Lib.hid (show rawT (1, n, t) ins acc = some (acc ++ ins[n]) by
    show some (acc ++ (ins[(n : Int).toNat]?).getD []) = _
    simp [hn])
  obtain ⟨y, hy⟩ : ∃ y, y = ins[n] := ⟨_, rfl⟩
  rw [← hy] at hcell hxl hcell2 HT
  have hnz : (n : Int) < (ins.length : Int) := by omega
  clear hat hx hy hc1 hc2
  unfold catV
  have qcat := ta_cat_cat (.agg #[.int .i64 (n : Int)])
  go_enter Tryd.func42, Tryd.ntmps42
  go_wp2_with fail
  go_ret2
  exact ⟨by rw [HT.out]; show _ = Ending.returned (.tuple #[.string ⟨(acc ++ y).toArray⟩, .bool true]); rw [← data_app]; rfl, (Below.refl _ _).alloc (Nat.le_refl _) _⟩

set_option maxRecDepth 20000 in
set_option maxHeartbeats 2000000 in
theorem do_drop (ins : List (List UInt8)) (n : Nat) (t : List UInt8) (u : Value) (acc : List UInt8) (w : World) (ha : acc.length ≤ 40) (hn : n ≤ 40) :
    Calls Tryd.prog 42 #[dropV n, u, .string ⟨acc.toArray⟩] w (StepPost (rawT (5, n, t) ins acc) w) := by
  have HT := Lib.hid (show rawT (5, n, t) ins acc = some (acc.drop n) by
    show some (acc.drop (n : Int).toNat) = _
    simp only [Int.toNat_natCast])
  have HD := Lib.hid (drop_min acc n)
  by_cases hle : n ≤ acc.length
  · have hz : (n : Int) ≤ (acc.length : Int) := by omega
    have hm : min (n : Int) (acc.length : Int) = (n : Int) := by omega
    rw [Nat.min_eq_right hle] at HD
    unfold dropV
    have qcat := ta_drop_cat (.agg #[.int .i64 (n : Int)])
    have qtext := ta_drop_text (.agg #[.int .i64 (n : Int)])
    have qupper := ta_drop_upper (.agg #[.int .i64 (n : Int)])
    have qsort := ta_drop_sort (.agg #[.int .i64 (n : Int)])
    have qdrop := ta_drop_drop (.agg #[.int .i64 (n : Int)])
    go_enter Tryd.func42, Tryd.ntmps42
    go_wp2_with fail
    go_ret2
    exact ⟨by rw [HT.out]; show _ = Ending.returned (.tuple #[.string ⟨(acc.drop n).toArray⟩, .bool true]); rw [← HD.out]; rfl, (Below.refl _ _).alloc (Nat.le_refl _) _⟩
  · have hz : (acc.length : Int) < (n : Int) := by omega
    have hm : min (n : Int) (acc.length : Int) = (acc.length : Int) := by omega
    rw [Nat.min_eq_left (by omega)] at HD
    unfold dropV
    have qcat := ta_drop_cat (.agg #[.int .i64 (n : Int)])
    have qtext := ta_drop_text (.agg #[.int .i64 (n : Int)])
    have qupper := ta_drop_upper (.agg #[.int .i64 (n : Int)])
    have qsort := ta_drop_sort (.agg #[.int .i64 (n : Int)])
    have qdrop := ta_drop_drop (.agg #[.int .i64 (n : Int)])
    go_enter Tryd.func42, Tryd.ntmps42
    go_wp2_with fail
    go_ret2
    exact ⟨by rw [HT.out, show acc.drop n = [] from List.drop_eq_nil_of_le (by omega)]; rfl, (Below.refl _ _).alloc (Nat.le_refl _) _⟩

theorem do_any (o : OpT) (ins : List (List UInt8)) (u : Value) (acc : List UInt8) (w : World) (hrow : RowV w u (S ins)) (hok : opOk ins.length o = true) (ht : textsL ins = true) (ha : acc.length ≤ 40) :
    Calls Tryd.prog 42 #[deedV o, u, .string ⟨acc.toArray⟩] w (StepPost (rawT o ins acc) w) := by
  obtain ⟨k, n, t⟩ := o
  simp only [textsL, Bool.and_eq_true, List.all_eq_true, decide_eq_true_eq] at ht
  simp only [opOk] at hok
  split at hok
  · rename_i h; subst h
    simp only [Bool.and_eq_true, decide_eq_true_eq] at hok
    obtain ⟨m, rfl⟩ : ∃ m : Nat, n = m := ⟨n.toNat, by omega⟩
    exact do_cat ins m t u acc w hrow ha (by omega) ht.1 ht.2
  split at hok
  · rename_i h; subst h
    simp only [Bool.and_eq_true, decide_eq_true_eq] at hok
    exact do_text n t ins u acc w ha hok.2
  split at hok
  · rename_i h; subst h
    simp only [Bool.and_eq_true, decide_eq_true_eq] at hok
    obtain ⟨m, rfl⟩ : ∃ m : Nat, n = m := ⟨n.toNat, by omega⟩
    exact do_drop ins m t u acc w ha (by omega)
  split at hok
  · rename_i h
    rcases h with h | h | h | h <;> subst h
    · exact do_upper n t ins u acc w ha
    · exact do_sort n t ins u acc w ha
    · exact do_count n t ins u acc w ha
    · exact do_fail n t ins u acc w
  · cases hok

end Go.Proofs.YtnnojeoehomadaaDoor

/- Walks: the program's runDeeds. -/
namespace Go.Proofs.YtnnojeoehomadaaDoor
open Go.RowKit Pth

theorem raw_len {o : OpT} {ins : List (List UInt8)} {acc z : List UInt8} (hok : opOk ins.length o = true) (ht : textsL ins = true) (ha : acc.length ≤ 40) (h : rawT o ins acc = some z) : z.length ≤ 80 := by
  obtain ⟨k, n, t⟩ := o
  simp only [textsL, Bool.and_eq_true, List.all_eq_true, decide_eq_true_eq] at ht
  unfold rawT at h
  simp only at h
  split at h
  · simp only [Option.some.injEq] at h; subst h
    rcases hm : ins[n.toNat]? with _ | y
    · simp; omega
    · have := ht.1 y (List.mem_of_getElem? hm)
      simp; omega
  split at h
  · rename_i h1 h2
    simp only [Option.some.injEq] at h; subst h
    simp only [opOk, h1, if_neg, h2, if_true, Bool.and_eq_true, decide_eq_true_eq] at hok
    simp at hok ⊢; omega
  split at h
  · simp only [Option.some.injEq] at h; subst h; rw [upT_len]; omega
  split at h
  · simp only [Option.some.injEq] at h; subst h; rw [sortT_len]; omega
  split at h
  · simp only [Option.some.injEq] at h; subst h; simp; omega
  split at h
  · simp only [Option.some.injEq] at h; subst h; have := numT_len acc.length; omega
  · cases h

set_option maxRecDepth 20000 in
set_option maxHeartbeats 2000000 in
theorem runD_any (r : List OpT) (ins : List (List UInt8)) (v u : Value) (acc0 : List UInt8) (w : World) (hrow : RowV w v (DC r)) (hins : RowV w u (S ins)) (hok : r.all (opOk ins.length) = true) (ht : textsL ins = true) (ha0 : acc0.length ≤ 40) :
    Calls Tryd.prog 27 #[v, u, .string ⟨acc0.toArray⟩] w (StepPost (Pth.runT ins r acc0) w) := by
  obtain ⟨a, cap, rfl, hc1, hc2, hat⟩ := hrow
  have hdc : (DC r).length = r.length := by simp [DC]
  rw [hdc] at hc1 ⊢
  have hat2 : ∀ k (hk : k < r.length), ∃ g o, a = some ⟨g, o, none⟩ ∧ g < w.heap.size ∧ w.cell? ⟨g, o + k, none⟩ = some (deedV r[k]) := fun k hk => by
    obtain ⟨g, o, h1, h2, h3⟩ := hat k (by rw [hdc]; exact hk)
    exact ⟨g, o, h1, h2, by rw [h3]; simp [DC]⟩
  have HI := Lib.hid hins
  have HK : Hid (∀ k (hk : k < r.length), opOk ins.length r[k] = true) := fun k hk => List.all_eq_true.1 hok _ (List.getElem_mem hk)
  have HX := Lib.hid ht
  clear hat hins hok ht hdc
  unfold maxLen at hc2
  obtain ⟨R, hR⟩ : ∃ R, R = Pth.runT ins r acc0 := ⟨_, rfl⟩
  rw [← hR]
  go_enter Tryd.func27, Tryd.ntmps27
  go_wp2_with fail
  go_loopw [2, 14] (fun s i wr => ∃ (k : Nat) (acc : List UInt8), k ≤ r.length ∧ acc.length ≤ 40 ∧ s = .string ⟨acc.toArray⟩ ∧ i = .int .i64 k ∧ Hid (Below w.heap.size w wr) ∧ Hid (R = Pth.runT ins (r.drop k) acc)) (fun _ i _ => r.length - (intOf i).toNat)
  case atStart => exact ⟨0, acc0, Nat.zero_le _, ha0, rfl, by go_num, Below.refl _ _, hR⟩
  case round =>
    clear hR ha0
    obtain ⟨k, acc, hk, hacc, rfl, rfl, HB, HO⟩ := hrel
    by_cases hlt : k < r.length
    · obtain ⟨g, o, rfl, hg, hcell⟩ := hat2 k hlt
      have s1 := (HB.out.cell (p := ⟨g, o + k, none⟩) hg).trans hcell
      have hltz : (k : Int) < (r.length : Int) := by omega
      have HC := Lib.hid (do_any r[k] ins u acc wr (HI.out.below HB.out) (HK.out k hlt) HX.out hacc)
      rcases hy : rawT r[k] ins acc with _ | z
      · have HV := Lib.hid (run_none HO.out hlt (by rw [Pth.stepT, hy]; rfl))
        rw [hy] at HC
        clear hcell hat2 HO hy
        generalize deedV r[k] = x at s1 HC
        go_wp2_with fail
        refine HC.out.mono ?_
        rintro e w1 ⟨rfl, hb1⟩
        have HB1 := Lib.hid (below_step HB.out hb1)
        clear hb1 HC
        go_wp2_with fail
        go_ret2
        exact ⟨by rw [HV.out]; rfl, HB1.out⟩
      · have hz := raw_len (HK.out k hlt) HX.out hacc hy
        have HL := Lib.hid (fun W => long_any z W (by unfold maxLen; omega))
        rw [hy] at HC
        by_cases h40 : z.length ≤ 40
        · have HV := Lib.hid (run_some HO.out hlt (show Pth.stepT r[k] ins acc = some z by rw [Pth.stepT, hy]; exact if_pos h40))
          rw [show decide (40 < z.length) = false from decide_eq_false (by omega)] at HL
          clear hcell hat2 HO hy
          generalize deedV r[k] = x at s1 HC
          go_wp2_with fail
          refine HC.out.mono ?_
          rintro e w1 ⟨rfl, hb1⟩
          have HB1 := Lib.hid (below_step HB.out hb1)
          clear hb1 HC
          go_wp2_with (go_at_call 41; refine (HL.out _).mono ?_; rintro e w2 ⟨rfl, rfl⟩)
          go_roundw
          case rel => exact ⟨k + 1, z, by omega, h40, rfl, by go_num, HB1, HV⟩
          case measure => simp [intOf]; omega
        · have HV := Lib.hid (run_none HO.out hlt (show Pth.stepT r[k] ins acc = none by rw [Pth.stepT, hy]; exact if_neg h40))
          rw [show decide (40 < z.length) = true from decide_eq_true (by omega)] at HL
          clear hcell hat2 HO hy
          generalize deedV r[k] = x at s1 HC
          go_wp2_with fail
          refine HC.out.mono ?_
          rintro e w1 ⟨rfl, hb1⟩
          have HB1 := Lib.hid (below_step HB.out hb1)
          clear hb1 HC
          go_wp2_with (go_at_call 41; refine (HL.out _).mono ?_; rintro e w2 ⟨rfl, rfl⟩)
          go_ret2
          exact ⟨by rw [HV.out]; rfl, HB1.out⟩
    · have HV := Lib.hid (show R = some acc by rw [HO.out, List.drop_eq_nil_of_le (by omega)]; rfl)
      have hltz : ¬ ((k : Int) < (r.length : Int)) := by omega
      have HC := Lib.hid (fun W => clone_text acc W (by omega))
      clear HO hat2
      go_wp2_with fail
      refine (HC.out _).mono ?_
      rintro e w1 ⟨rfl, hb1⟩
      have HB1 := Lib.hid (below_step HB.out hb1)
      clear hb1 HC
      go_wp2_with fail
      go_ret2
      exact ⟨by rw [HV.out]; rfl, HB1.out⟩

end Go.Proofs.YtnnojeoehomadaaDoor

/- Walks: the program's RunRecipe. -/
namespace Go.Proofs.YtnnojeoehomadaaDoor
open Go.RowKit Pth

set_option maxRecDepth 20000 in
set_option maxHeartbeats 2000000 in
theorem implRun_any (r : List OpT) (ins : List (List UInt8)) (v u : Value) (w : World) (hrow : RowO w v r) (hins : RowV w u (S ins)) (hx : ∀ x ∈ ins, x.length ≤ maxLen) :
    Calls Tryd.prog 7 #[v, u] w (TellPost (runOk r ins) (runA r ins) w) := by
  have HD := Lib.hid (deedsOn_any r ins v u w hrow hins hx)
  have HI := Lib.hid hins
  clear hrow hins hx
  rcases hg : runOk r ins with _ | _
  · have HA := Lib.hid (show runA r ins = none by rw [runA, hg]; rfl)
    rw [hg] at HD
    clear hg
    go_enter Tryd.func7, Tryd.ntmps7
    go_wp2_with fail
    refine HD.out.mono ?_
    rintro e w1 ⟨d, rfl, hn, hb⟩
    have HB := Lib.hid hb
    clear hn hb HD
    go_wp2_with fail
    go_ret3
    exact ⟨by rw [HA.out]; rfl, HB.out⟩
  · have HA := Lib.hid (show runA r ins = Pth.runT ins r [] by rw [runA, hg]; rfl)
    have hh : textsL ins = true ∧ goodR r ins.length = true := by simpa [runOk] using hg
    have HR := Lib.hid (fun (W : World) (d : Value) (h1 : RowV W d (DC r)) (h2 : RowV W u (S ins)) => runD_any r ins d u [] W h1 h2 (goodR_all hh.2) hh.1 (by simp))
    rw [hg] at HD
    clear hg hh
    go_enter Tryd.func7, Tryd.ntmps7
    go_wp2_with fail
    refine HD.out.mono ?_
    rintro e w1 ⟨d, rfl, hn, hb⟩
    have HC := Lib.hid (HR.out w1 d (by have := RowV.of_own hn; simpa using this) (HI.out.below hb))
    have HB := Lib.hid hb
    clear hn hb HD HR
    go_wp2_with fail
    refine HC.out.mono ?_
    rintro e w2 ⟨rfl, hb2⟩
    have HB2 := Lib.hid (below_step HB.out hb2)
    clear hb2 HC
    generalize Pth.runT ins r [] = y at HA
    go_wp2_with fail
    go_ret3
    exact ⟨by rw [HA.out]; rfl, HB2.out⟩

end Go.Proofs.YtnnojeoehomadaaDoor

/- Walks: the program's StepRecipe. -/
namespace Go.Proofs.YtnnojeoehomadaaDoor
open Go.RowKit Pth

theorem run_one (o : OpT) (ins : List (List UInt8)) (acc : List UInt8) : Pth.runT ins [o] acc = Pth.stepT o ins acc := by
  show (Pth.stepT o ins acc).bind (fun x => some x) = _
  rcases Pth.stepT o ins acc with _ | y <;> rfl
theorem goodR_one {o : OpT} {ins : List (List UInt8)} (h : ins.length ≤ 10) : goodR [o] ins.length = opOk ins.length o := by
  rcases ho : opOk (ins.length : Int) o with _ | _
  · rcases hg : goodR [o] (ins.length : Int) with _ | _
    · rfl
    · have := goodR_all hg; simp [ho] at this
  · exact goodR_iff.2 ⟨by omega, by omega, by simp, by simp [ho]⟩
theorem stepOk_is (o : OpT) (ins : List (List UInt8)) (acc : List UInt8) : stepOk o ins acc = (runOk [o] ins && decide (acc.length ≤ 40)) := by
  rcases ht : textsL ins with _ | _
  · simp [stepOk, runOk, ht]
  · have : ins.length ≤ 10 := by simp [textsL] at ht; exact ht.2
    rw [stepOk, runOk, goodR_one this]
theorem rowO_one (w : World) (k n : Int) (t : List UInt8) : RowO (w.alloc (.cells #[.int .i64 k, .int .i64 n, .string ⟨t.toArray⟩] 30)) (.slice (some ⟨w.heap.size, 0, none⟩) 1 1) [(k, n, t)] := by
  have hh : (w.alloc (.cells #[.int .i64 k, .int .i64 n, .string ⟨t.toArray⟩] 30)).heap[w.heap.size]? = some (.cells #[.int .i64 k, .int .i64 n, .string ⟨t.toArray⟩] 30 (0, 0)) := Array.getElem?_push_size
  refine ⟨some ⟨w.heap.size, 0, none⟩, 1, rfl, rfl, Nat.le_refl _, by unfold maxLen; omega, fun j hj => ⟨w.heap.size, 0, rfl, by simp, ?_⟩⟩
  have hj3 : j < 3 := hj
  rw [Lib.cell_of_heap hh]
  match j, hj3 with
  | 0, _ => rfl
  | 1, _ => rfl
  | 2, _ => rfl

set_option maxRecDepth 20000 in
set_option maxHeartbeats 2000000 in
theorem implStep_any (k n : Int) (t : List UInt8) (ins : List (List UInt8)) (u : Value) (acc : List UInt8) (w : World) (hins : RowV w u (S ins)) (hx : ∀ x ∈ ins, x.length ≤ maxLen) (hac : acc.length ≤ maxLen) :
    Calls Tryd.prog 9 #[opV (k, n, t), u, .string ⟨acc.toArray⟩] w (TellPost (stepOk (k, n, t) ins acc) (stepA (k, n, t) ins acc) w) := by
  obtain ⟨C, hC⟩ : ∃ C : Obj, C = .cells #[.int .i64 k, .int .i64 n, .string ⟨t.toArray⟩] 30 := ⟨_, rfl⟩
  have hsz : (w.alloc C).heap.size = w.heap.size + 1 := by simp
  have hrw := rowO_one (w.alloc C) k n t
  rw [hsz, ← hC] at hrw
  have HI := Lib.hid ((hins.alloc C).alloc C)
  have HD := Lib.hid (deedsOn_any [(k, n, t)] ins _ u ((w.alloc C).alloc C) hrw HI.out hx)
  have HBW : Hid (Below w.heap.size w ((w.alloc C).alloc C)) := ((Below.refl w.heap.size w).alloc (Nat.le_refl _) C).alloc (by simp) C
  clear hrw hins hx hsz
  subst hC
  unfold maxLen at hac
  have HSK := Lib.hid (stepOk_is (k, n, t) ins acc)
  unfold opV
  rcases hg : runOk [(k, n, t)] ins with _ | _
  · have HO := Lib.hid (show stepOk (k, n, t) ins acc = false by rw [HSK.out, hg]; rfl)
    have HA := Lib.hid (show stepA (k, n, t) ins acc = none by rw [stepA, HO.out]; rfl)
    rw [hg] at HD
    clear hg
    go_enter Tryd.func9, Tryd.ntmps9
    go_wp2_with fail
    refine HD.out.mono ?_
    rintro e w1 ⟨d, rfl, hn, hb⟩
    have HB := Lib.hid (below_step HBW.out hb)
    clear hn hb HD
    go_wp2_with fail
    go_ret3
    exact ⟨by rw [HO.out, HA.out]; rfl, HB.out⟩
  · by_cases hl : acc.length ≤ 40
    · have HO := Lib.hid (show stepOk (k, n, t) ins acc = true by rw [HSK.out, hg]; simp [hl])
      have HA := Lib.hid (show stepA (k, n, t) ins acc = Pth.runT ins [(k, n, t)] acc by rw [stepA, HO.out, run_one]; rfl)
      have hh : textsL ins = true ∧ goodR [(k, n, t)] ins.length = true := by simpa [runOk] using hg
      have HR := Lib.hid (fun (W : World) (d : Value) (h1 : RowV W d (DC [(k, n, t)])) (h2 : RowV W u (S ins)) => runD_any [(k, n, t)] ins d u acc W h1 h2 (goodR_all hh.2) hh.1 hl)
      have hlz : ¬ ((40 : Int) < (acc.length : Int)) := by omega
      rw [hg] at HD
      clear hg hh
      go_enter Tryd.func9, Tryd.ntmps9
      go_wp2_with fail
      refine HD.out.mono ?_
      rintro e w1 ⟨d, rfl, hn, hb⟩
      have HC := Lib.hid (HR.out w1 d (by have := RowV.of_own hn; simpa using this) (HI.out.below hb))
      have HB := Lib.hid (below_step HBW.out hb)
      clear hn hb HD HR
      go_wp2_with fail
      refine HC.out.mono ?_
      rintro e w2 ⟨rfl, hb2⟩
      have HB2 := Lib.hid (below_step HB.out hb2)
      clear hb2 HC
      generalize Pth.runT ins [(k, n, t)] acc = y at HA
      go_wp2_with fail
      go_ret3
      exact ⟨by rw [HO.out, HA.out]; rfl, HB2.out⟩
    · have HO := Lib.hid (show stepOk (k, n, t) ins acc = false by rw [HSK.out]; simp; intro _; omega)
      have HA := Lib.hid (show stepA (k, n, t) ins acc = none by rw [stepA, HO.out]; rfl)
      have hlz : ((40 : Int) < (acc.length : Int)) := by omega
      rw [hg] at HD
      clear hg
      go_enter Tryd.func9, Tryd.ntmps9
      go_wp2_with fail
      refine HD.out.mono ?_
      rintro e w1 ⟨d, rfl, hn, hb⟩
      have HB := Lib.hid (below_step HBW.out hb)
      clear hn hb HD
      go_wp2_with fail
      go_ret3
      exact ⟨by rw [HO.out, HA.out]; rfl, HB.out⟩

end Go.Proofs.YtnnojeoehomadaaDoor
