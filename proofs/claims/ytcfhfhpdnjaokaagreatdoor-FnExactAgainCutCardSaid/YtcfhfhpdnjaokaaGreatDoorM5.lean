/- Texts of one claim, joined in their order. -/
import Derived.Test.YtcfhfhpdnjaokaaGreatDoorRows
import Derived.WalkKit
import Derived.Deep.Quiet
import Derived.StillTail
import Derived.BigQuiet
import Derived.Test.YtcfhfhpdnjaokaaGreatDoorM3
import Derived.Test.YtcfhfhpdnjaokaaGreatDoorM4
import Derived.Test.YtcfhfhpdnjaokaaGreatDoorM1

/- What a type assertion gives at each deed: closed facts of the loaded program. -/
namespace Go.Proofs.YtcfhfhpdnjaokaaGreatDoor
open Go.RowKit

theorem ta_cat_cat (v : Value) (w : World) : (Instr.typeAssert (.iface 193 v) 165 193 true).run Tryz.prog w = .ok (.tuple #[v, .bool true]) w := by kernel_rfl
theorem ta_cat_text (v : Value) (w : World) : (Instr.typeAssert (.iface 193 v) 165 195 true).run Tryz.prog w = .ok (.tuple #[.agg #[.string ByteArray.empty], .bool false]) w := by kernel_rfl
theorem ta_cat_upper (v : Value) (w : World) : (Instr.typeAssert (.iface 193 v) 165 197 true).run Tryz.prog w = .ok (.tuple #[.agg #[], .bool false]) w := by kernel_rfl
theorem ta_cat_sort (v : Value) (w : World) : (Instr.typeAssert (.iface 193 v) 165 198 true).run Tryz.prog w = .ok (.tuple #[.agg #[], .bool false]) w := by kernel_rfl
theorem ta_cat_drop (v : Value) (w : World) : (Instr.typeAssert (.iface 193 v) 165 200 true).run Tryz.prog w = .ok (.tuple #[.agg #[.int .i64 0], .bool false]) w := by kernel_rfl
theorem ta_cat_count (v : Value) (w : World) : (Instr.typeAssert (.iface 193 v) 165 201 true).run Tryz.prog w = .ok (.tuple #[.agg #[], .bool false]) w := by kernel_rfl
theorem ta_cat_fail (v : Value) (w : World) : (Instr.typeAssert (.iface 193 v) 165 202 true).run Tryz.prog w = .ok (.tuple #[.agg #[], .bool false]) w := by kernel_rfl
theorem ta_text_cat (v : Value) (w : World) : (Instr.typeAssert (.iface 195 v) 165 193 true).run Tryz.prog w = .ok (.tuple #[.agg #[.int .i64 0], .bool false]) w := by kernel_rfl
theorem ta_text_text (v : Value) (w : World) : (Instr.typeAssert (.iface 195 v) 165 195 true).run Tryz.prog w = .ok (.tuple #[v, .bool true]) w := by kernel_rfl
theorem ta_text_upper (v : Value) (w : World) : (Instr.typeAssert (.iface 195 v) 165 197 true).run Tryz.prog w = .ok (.tuple #[.agg #[], .bool false]) w := by kernel_rfl
theorem ta_text_sort (v : Value) (w : World) : (Instr.typeAssert (.iface 195 v) 165 198 true).run Tryz.prog w = .ok (.tuple #[.agg #[], .bool false]) w := by kernel_rfl
theorem ta_text_drop (v : Value) (w : World) : (Instr.typeAssert (.iface 195 v) 165 200 true).run Tryz.prog w = .ok (.tuple #[.agg #[.int .i64 0], .bool false]) w := by kernel_rfl
theorem ta_text_count (v : Value) (w : World) : (Instr.typeAssert (.iface 195 v) 165 201 true).run Tryz.prog w = .ok (.tuple #[.agg #[], .bool false]) w := by kernel_rfl
theorem ta_text_fail (v : Value) (w : World) : (Instr.typeAssert (.iface 195 v) 165 202 true).run Tryz.prog w = .ok (.tuple #[.agg #[], .bool false]) w := by kernel_rfl
theorem ta_upper_cat (v : Value) (w : World) : (Instr.typeAssert (.iface 197 v) 165 193 true).run Tryz.prog w = .ok (.tuple #[.agg #[.int .i64 0], .bool false]) w := by kernel_rfl
theorem ta_upper_text (v : Value) (w : World) : (Instr.typeAssert (.iface 197 v) 165 195 true).run Tryz.prog w = .ok (.tuple #[.agg #[.string ByteArray.empty], .bool false]) w := by kernel_rfl
theorem ta_upper_upper (v : Value) (w : World) : (Instr.typeAssert (.iface 197 v) 165 197 true).run Tryz.prog w = .ok (.tuple #[v, .bool true]) w := by kernel_rfl
theorem ta_upper_sort (v : Value) (w : World) : (Instr.typeAssert (.iface 197 v) 165 198 true).run Tryz.prog w = .ok (.tuple #[.agg #[], .bool false]) w := by kernel_rfl
theorem ta_upper_drop (v : Value) (w : World) : (Instr.typeAssert (.iface 197 v) 165 200 true).run Tryz.prog w = .ok (.tuple #[.agg #[.int .i64 0], .bool false]) w := by kernel_rfl
theorem ta_upper_count (v : Value) (w : World) : (Instr.typeAssert (.iface 197 v) 165 201 true).run Tryz.prog w = .ok (.tuple #[.agg #[], .bool false]) w := by kernel_rfl
theorem ta_upper_fail (v : Value) (w : World) : (Instr.typeAssert (.iface 197 v) 165 202 true).run Tryz.prog w = .ok (.tuple #[.agg #[], .bool false]) w := by kernel_rfl
theorem ta_sort_cat (v : Value) (w : World) : (Instr.typeAssert (.iface 198 v) 165 193 true).run Tryz.prog w = .ok (.tuple #[.agg #[.int .i64 0], .bool false]) w := by kernel_rfl
theorem ta_sort_text (v : Value) (w : World) : (Instr.typeAssert (.iface 198 v) 165 195 true).run Tryz.prog w = .ok (.tuple #[.agg #[.string ByteArray.empty], .bool false]) w := by kernel_rfl
theorem ta_sort_upper (v : Value) (w : World) : (Instr.typeAssert (.iface 198 v) 165 197 true).run Tryz.prog w = .ok (.tuple #[.agg #[], .bool false]) w := by kernel_rfl
theorem ta_sort_sort (v : Value) (w : World) : (Instr.typeAssert (.iface 198 v) 165 198 true).run Tryz.prog w = .ok (.tuple #[v, .bool true]) w := by kernel_rfl
theorem ta_sort_drop (v : Value) (w : World) : (Instr.typeAssert (.iface 198 v) 165 200 true).run Tryz.prog w = .ok (.tuple #[.agg #[.int .i64 0], .bool false]) w := by kernel_rfl
theorem ta_sort_count (v : Value) (w : World) : (Instr.typeAssert (.iface 198 v) 165 201 true).run Tryz.prog w = .ok (.tuple #[.agg #[], .bool false]) w := by kernel_rfl
theorem ta_sort_fail (v : Value) (w : World) : (Instr.typeAssert (.iface 198 v) 165 202 true).run Tryz.prog w = .ok (.tuple #[.agg #[], .bool false]) w := by kernel_rfl
theorem ta_drop_cat (v : Value) (w : World) : (Instr.typeAssert (.iface 200 v) 165 193 true).run Tryz.prog w = .ok (.tuple #[.agg #[.int .i64 0], .bool false]) w := by kernel_rfl
theorem ta_drop_text (v : Value) (w : World) : (Instr.typeAssert (.iface 200 v) 165 195 true).run Tryz.prog w = .ok (.tuple #[.agg #[.string ByteArray.empty], .bool false]) w := by kernel_rfl
theorem ta_drop_upper (v : Value) (w : World) : (Instr.typeAssert (.iface 200 v) 165 197 true).run Tryz.prog w = .ok (.tuple #[.agg #[], .bool false]) w := by kernel_rfl
theorem ta_drop_sort (v : Value) (w : World) : (Instr.typeAssert (.iface 200 v) 165 198 true).run Tryz.prog w = .ok (.tuple #[.agg #[], .bool false]) w := by kernel_rfl
theorem ta_drop_drop (v : Value) (w : World) : (Instr.typeAssert (.iface 200 v) 165 200 true).run Tryz.prog w = .ok (.tuple #[v, .bool true]) w := by kernel_rfl
theorem ta_drop_count (v : Value) (w : World) : (Instr.typeAssert (.iface 200 v) 165 201 true).run Tryz.prog w = .ok (.tuple #[.agg #[], .bool false]) w := by kernel_rfl
theorem ta_drop_fail (v : Value) (w : World) : (Instr.typeAssert (.iface 200 v) 165 202 true).run Tryz.prog w = .ok (.tuple #[.agg #[], .bool false]) w := by kernel_rfl
theorem ta_count_cat (v : Value) (w : World) : (Instr.typeAssert (.iface 201 v) 165 193 true).run Tryz.prog w = .ok (.tuple #[.agg #[.int .i64 0], .bool false]) w := by kernel_rfl
theorem ta_count_text (v : Value) (w : World) : (Instr.typeAssert (.iface 201 v) 165 195 true).run Tryz.prog w = .ok (.tuple #[.agg #[.string ByteArray.empty], .bool false]) w := by kernel_rfl
theorem ta_count_upper (v : Value) (w : World) : (Instr.typeAssert (.iface 201 v) 165 197 true).run Tryz.prog w = .ok (.tuple #[.agg #[], .bool false]) w := by kernel_rfl
theorem ta_count_sort (v : Value) (w : World) : (Instr.typeAssert (.iface 201 v) 165 198 true).run Tryz.prog w = .ok (.tuple #[.agg #[], .bool false]) w := by kernel_rfl
theorem ta_count_drop (v : Value) (w : World) : (Instr.typeAssert (.iface 201 v) 165 200 true).run Tryz.prog w = .ok (.tuple #[.agg #[.int .i64 0], .bool false]) w := by kernel_rfl
theorem ta_count_count (v : Value) (w : World) : (Instr.typeAssert (.iface 201 v) 165 201 true).run Tryz.prog w = .ok (.tuple #[v, .bool true]) w := by kernel_rfl
theorem ta_count_fail (v : Value) (w : World) : (Instr.typeAssert (.iface 201 v) 165 202 true).run Tryz.prog w = .ok (.tuple #[.agg #[], .bool false]) w := by kernel_rfl
theorem ta_fail_cat (v : Value) (w : World) : (Instr.typeAssert (.iface 202 v) 165 193 true).run Tryz.prog w = .ok (.tuple #[.agg #[.int .i64 0], .bool false]) w := by kernel_rfl
theorem ta_fail_text (v : Value) (w : World) : (Instr.typeAssert (.iface 202 v) 165 195 true).run Tryz.prog w = .ok (.tuple #[.agg #[.string ByteArray.empty], .bool false]) w := by kernel_rfl
theorem ta_fail_upper (v : Value) (w : World) : (Instr.typeAssert (.iface 202 v) 165 197 true).run Tryz.prog w = .ok (.tuple #[.agg #[], .bool false]) w := by kernel_rfl
theorem ta_fail_sort (v : Value) (w : World) : (Instr.typeAssert (.iface 202 v) 165 198 true).run Tryz.prog w = .ok (.tuple #[.agg #[], .bool false]) w := by kernel_rfl
theorem ta_fail_drop (v : Value) (w : World) : (Instr.typeAssert (.iface 202 v) 165 200 true).run Tryz.prog w = .ok (.tuple #[.agg #[.int .i64 0], .bool false]) w := by kernel_rfl
theorem ta_fail_count (v : Value) (w : World) : (Instr.typeAssert (.iface 202 v) 165 201 true).run Tryz.prog w = .ok (.tuple #[.agg #[], .bool false]) w := by kernel_rfl
theorem ta_fail_fail (v : Value) (w : World) : (Instr.typeAssert (.iface 202 v) 165 202 true).run Tryz.prog w = .ok (.tuple #[v, .bool true]) w := by kernel_rfl

end Go.Proofs.YtcfhfhpdnjaokaaGreatDoor

/- Walks: the program's deeds, one by one. -/
namespace Go.Proofs.YtcfhfhpdnjaokaaGreatDoor
open Go.RowKit Pth

def catV (n : Int) : Value := .iface 193 (.agg #[.int .i64 n])
def textV (t : List UInt8) : Value := .iface 195 (.agg #[.string ⟨t.toArray⟩])
def upperV : Value := .iface 197 (.agg #[])
def sortV : Value := .iface 198 (.agg #[])
def dropV (n : Int) : Value := .iface 200 (.agg #[.int .i64 n])
def countV : Value := .iface 201 (.agg #[])
def failV : Value := .iface 202 (.agg #[])
/-- A deed is told. -/
def DeedPost (d : Value) (b : Bool) (w : World) (e : Ending) (w' : World) : Prop := e = .returned (.tuple #[d, .bool b]) ∧ Below w.heap.size w w'
/-- An op is told. -/
def OpPost (o : OpT) (w : World) (e : Ending) (w' : World) : Prop := e = .returned (opV o) ∧ Below w.heap.size w w'
/-- A bool is handed back; what lay there lies there. -/
def BPost (b : Bool) (w : World) (e : Ending) (w' : World) : Prop := e = .returned (.bool b) ∧ Below w.heap.size w w'

set_option maxRecDepth 20000 in
set_option maxHeartbeats 2000000 in
theorem deedOf_cat (n : Int) (t : List UInt8) (w : World) : Calls Tryz.prog 171 #[opV (1, n, t)] w (DeedPost (catV n) true w) := by
  unfold opV catV
  simp only
  have HB := Lib.hid ((Below.refl w.heap.size w).alloc (Nat.le_refl _) (.cells #[.int .i64 1, .int .i64 n, .string ⟨t.toArray⟩] 158))
  go_enter Tryz.func171, Tryz.ntmps171
  go_wp2_with fail
  go_ret2
  exact ⟨rfl, HB.out⟩

set_option maxRecDepth 20000 in
set_option maxHeartbeats 2000000 in
theorem asOp_cat (n : Int) (w : World) : Calls Tryz.prog 263 #[.agg #[.int .i64 n]] w (OpPost (1, n, []) w) := by
  unfold OpPost opV
  simp only
  go_enter Tryz.func263, Tryz.ntmps263
  go_wp2_with fail
  refine bodyPost_ret (results_cellO rfl rfl (load_op (x := .int .i64 1) (y := .int .i64 n) (z := .string ⟨#[]⟩) (by go_simp) (by go_simp) (by go_simp))) rfl ?_
  exact ⟨rfl, ((Below.refl w.heap.size w).alloc (Nat.le_refl _) _).alloc (by simp) _⟩

set_option maxRecDepth 20000 in
set_option maxHeartbeats 2000000 in
theorem range_cat (n ins : Int) (w : World) : Calls Tryz.prog 172 #[catV n, .int .i64 ins] w (BPost (decide (0 ≤ n) && decide (n < ins)) w) := by
  unfold catV
  have HB := Lib.hid ((Below.refl w.heap.size w).alloc (Nat.le_refl _) (.cells #[.int .i64 n] 193))
  have qcat := ta_cat_cat (.agg #[.int .i64 n])
  obtain ⟨b1, hb1⟩ : ∃ b, decide (0 ≤ n) = b := ⟨_, rfl⟩
  obtain ⟨b2, hb2⟩ : ∃ b, decide (n < ins) = b := ⟨_, rfl⟩
  have HT : Hid ((decide (0 ≤ n) && decide (n < ins)) = (b1 && b2)) := by rw [hb1, hb2]; rfl
  rw [HT.out]
  rcases b1 with _ | _ <;> rcases b2 with _ | _ <;>
    (go_enter Tryz.func172, Tryz.ntmps172
     go_wp2_with fail
     go_ret
     exact ⟨rfl, HB.out⟩)

set_option maxRecDepth 20000 in
set_option maxHeartbeats 2000000 in
theorem deedOf_text (n : Int) (t : List UInt8) (w : World) : Calls Tryz.prog 171 #[opV (2, n, t)] w (DeedPost (textV t) true w) := by
  unfold opV textV
  simp only
  have HB := Lib.hid ((Below.refl w.heap.size w).alloc (Nat.le_refl _) (.cells #[.int .i64 2, .int .i64 n, .string ⟨t.toArray⟩] 158))
  go_enter Tryz.func171, Tryz.ntmps171
  go_wp2_with fail
  go_ret2
  exact ⟨rfl, HB.out⟩

set_option maxRecDepth 20000 in
set_option maxHeartbeats 2000000 in
theorem asOp_text (t : List UInt8) (w : World) : Calls Tryz.prog 264 #[.agg #[.string ⟨t.toArray⟩]] w (OpPost (2, 0, t) w) := by
  unfold OpPost opV
  simp only
  go_enter Tryz.func264, Tryz.ntmps264
  go_wp2_with fail
  refine bodyPost_ret (results_cellO rfl rfl (load_op (x := .int .i64 2) (y := .int .i64 0) (z := .string ⟨t.toArray⟩) (by go_simp) (by go_simp) (by go_simp))) rfl ?_
  exact ⟨rfl, ((Below.refl w.heap.size w).alloc (Nat.le_refl _) _).alloc (by simp) _⟩

set_option maxRecDepth 20000 in
set_option maxHeartbeats 2000000 in
theorem range_text (t : List UInt8) (ins : Int) (w : World) : Calls Tryz.prog 172 #[textV t, .int .i64 ins] w (BPost (decide (t.length ≤ 10)) w) := by
  unfold textV
  have HB := Lib.hid ((Below.refl w.heap.size w).alloc (Nat.le_refl _) (.cells #[.string ⟨t.toArray⟩] 195))
  have qcat := ta_text_cat (.agg #[.string ⟨t.toArray⟩])
  have qtext := ta_text_text (.agg #[.string ⟨t.toArray⟩])
  obtain ⟨b2, hb2⟩ : ∃ b, decide ((t.length : Int) ≤ 10) = b := ⟨_, rfl⟩
  have HT : Hid (decide (t.length ≤ 10) = b2) := by rw [← hb2]; exact decide_eq_decide.2 (by omega)
  rw [HT.out]
  rcases b2 with _ | _ <;>
    (go_enter Tryz.func172, Tryz.ntmps172
     go_wp2_with fail
     go_ret
     exact ⟨rfl, HB.out⟩)

set_option maxRecDepth 20000 in
set_option maxHeartbeats 2000000 in
theorem deedOf_upper (n : Int) (t : List UInt8) (w : World) : Calls Tryz.prog 171 #[opV (3, n, t)] w (DeedPost (upperV) true w) := by
  unfold opV upperV
  simp only
  have HB := Lib.hid ((Below.refl w.heap.size w).alloc (Nat.le_refl _) (.cells #[.int .i64 3, .int .i64 n, .string ⟨t.toArray⟩] 158))
  go_enter Tryz.func171, Tryz.ntmps171
  go_wp2_with fail
  go_ret2
  exact ⟨rfl, HB.out⟩

set_option maxRecDepth 20000 in
set_option maxHeartbeats 2000000 in
theorem asOp_upper (w : World) : Calls Tryz.prog 265 #[.agg #[]] w (OpPost (3, 0, []) w) := by
  unfold OpPost opV
  simp only
  go_enter Tryz.func265, Tryz.ntmps265
  go_wp2_with fail
  refine bodyPost_ret (results_cellO rfl rfl (load_op (x := .int .i64 3) (y := .int .i64 0) (z := .string ⟨#[]⟩) (by go_simp) (by go_simp) (by go_simp))) rfl ?_
  exact ⟨rfl, ((Below.refl w.heap.size w).alloc (Nat.le_refl _) _).alloc (by simp) _⟩

set_option maxRecDepth 20000 in
set_option maxHeartbeats 2000000 in
theorem range_upper (ins : Int) (w : World) : Calls Tryz.prog 172 #[upperV, .int .i64 ins] w (BPost true w) := by
  unfold upperV
  have qcat := ta_upper_cat (.agg #[])
  have qtext := ta_upper_text (.agg #[])
  have qdrop := ta_upper_drop (.agg #[])
  go_enter Tryz.func172, Tryz.ntmps172
  go_wp2_with fail
  go_ret
  exact ⟨rfl, Below.refl _ _⟩

set_option maxRecDepth 20000 in
set_option maxHeartbeats 2000000 in
theorem deedOf_sort (n : Int) (t : List UInt8) (w : World) : Calls Tryz.prog 171 #[opV (4, n, t)] w (DeedPost (sortV) true w) := by
  unfold opV sortV
  simp only
  have HB := Lib.hid ((Below.refl w.heap.size w).alloc (Nat.le_refl _) (.cells #[.int .i64 4, .int .i64 n, .string ⟨t.toArray⟩] 158))
  go_enter Tryz.func171, Tryz.ntmps171
  go_wp2_with fail
  go_ret2
  exact ⟨rfl, HB.out⟩

set_option maxRecDepth 20000 in
set_option maxHeartbeats 2000000 in
theorem asOp_sort (w : World) : Calls Tryz.prog 266 #[.agg #[]] w (OpPost (4, 0, []) w) := by
  unfold OpPost opV
  simp only
  go_enter Tryz.func266, Tryz.ntmps266
  go_wp2_with fail
  refine bodyPost_ret (results_cellO rfl rfl (load_op (x := .int .i64 4) (y := .int .i64 0) (z := .string ⟨#[]⟩) (by go_simp) (by go_simp) (by go_simp))) rfl ?_
  exact ⟨rfl, ((Below.refl w.heap.size w).alloc (Nat.le_refl _) _).alloc (by simp) _⟩

set_option maxRecDepth 20000 in
set_option maxHeartbeats 2000000 in
theorem range_sort (ins : Int) (w : World) : Calls Tryz.prog 172 #[sortV, .int .i64 ins] w (BPost true w) := by
  unfold sortV
  have qcat := ta_sort_cat (.agg #[])
  have qtext := ta_sort_text (.agg #[])
  have qdrop := ta_sort_drop (.agg #[])
  go_enter Tryz.func172, Tryz.ntmps172
  go_wp2_with fail
  go_ret
  exact ⟨rfl, Below.refl _ _⟩

set_option maxRecDepth 20000 in
set_option maxHeartbeats 2000000 in
theorem deedOf_drop (n : Int) (t : List UInt8) (w : World) : Calls Tryz.prog 171 #[opV (5, n, t)] w (DeedPost (dropV n) true w) := by
  unfold opV dropV
  simp only
  have HB := Lib.hid ((Below.refl w.heap.size w).alloc (Nat.le_refl _) (.cells #[.int .i64 5, .int .i64 n, .string ⟨t.toArray⟩] 158))
  go_enter Tryz.func171, Tryz.ntmps171
  go_wp2_with fail
  go_ret2
  exact ⟨rfl, HB.out⟩

set_option maxRecDepth 20000 in
set_option maxHeartbeats 2000000 in
theorem asOp_drop (n : Int) (w : World) : Calls Tryz.prog 267 #[.agg #[.int .i64 n]] w (OpPost (5, n, []) w) := by
  unfold OpPost opV
  simp only
  go_enter Tryz.func267, Tryz.ntmps267
  go_wp2_with fail
  refine bodyPost_ret (results_cellO rfl rfl (load_op (x := .int .i64 5) (y := .int .i64 n) (z := .string ⟨#[]⟩) (by go_simp) (by go_simp) (by go_simp))) rfl ?_
  exact ⟨rfl, ((Below.refl w.heap.size w).alloc (Nat.le_refl _) _).alloc (by simp) _⟩

set_option maxRecDepth 20000 in
set_option maxHeartbeats 2000000 in
theorem range_drop (n ins : Int) (w : World) : Calls Tryz.prog 172 #[dropV n, .int .i64 ins] w (BPost (decide (0 ≤ n) && decide (n ≤ 40)) w) := by
  unfold dropV
  have HB := Lib.hid ((Below.refl w.heap.size w).alloc (Nat.le_refl _) (.cells #[.int .i64 n] 200))
  have qcat := ta_drop_cat (.agg #[.int .i64 n])
  have qtext := ta_drop_text (.agg #[.int .i64 n])
  have qdrop := ta_drop_drop (.agg #[.int .i64 n])
  obtain ⟨b1, hb1⟩ : ∃ b, decide (0 ≤ n) = b := ⟨_, rfl⟩
  obtain ⟨b2, hb2⟩ : ∃ b, decide (n ≤ 40) = b := ⟨_, rfl⟩
  have HT : Hid ((decide (0 ≤ n) && decide (n ≤ 40)) = (b1 && b2)) := by rw [hb1, hb2]; rfl
  rw [HT.out]
  rcases b1 with _ | _ <;> rcases b2 with _ | _ <;>
    (go_enter Tryz.func172, Tryz.ntmps172
     go_wp2_with fail
     go_ret
     exact ⟨rfl, HB.out⟩)

set_option maxRecDepth 20000 in
set_option maxHeartbeats 2000000 in
theorem deedOf_count (n : Int) (t : List UInt8) (w : World) : Calls Tryz.prog 171 #[opV (6, n, t)] w (DeedPost (countV) true w) := by
  unfold opV countV
  simp only
  have HB := Lib.hid ((Below.refl w.heap.size w).alloc (Nat.le_refl _) (.cells #[.int .i64 6, .int .i64 n, .string ⟨t.toArray⟩] 158))
  go_enter Tryz.func171, Tryz.ntmps171
  go_wp2_with fail
  go_ret2
  exact ⟨rfl, HB.out⟩

set_option maxRecDepth 20000 in
set_option maxHeartbeats 2000000 in
theorem asOp_count (w : World) : Calls Tryz.prog 268 #[.agg #[]] w (OpPost (6, 0, []) w) := by
  unfold OpPost opV
  simp only
  go_enter Tryz.func268, Tryz.ntmps268
  go_wp2_with fail
  refine bodyPost_ret (results_cellO rfl rfl (load_op (x := .int .i64 6) (y := .int .i64 0) (z := .string ⟨#[]⟩) (by go_simp) (by go_simp) (by go_simp))) rfl ?_
  exact ⟨rfl, ((Below.refl w.heap.size w).alloc (Nat.le_refl _) _).alloc (by simp) _⟩

set_option maxRecDepth 20000 in
set_option maxHeartbeats 2000000 in
theorem range_count (ins : Int) (w : World) : Calls Tryz.prog 172 #[countV, .int .i64 ins] w (BPost true w) := by
  unfold countV
  have qcat := ta_count_cat (.agg #[])
  have qtext := ta_count_text (.agg #[])
  have qdrop := ta_count_drop (.agg #[])
  go_enter Tryz.func172, Tryz.ntmps172
  go_wp2_with fail
  go_ret
  exact ⟨rfl, Below.refl _ _⟩

set_option maxRecDepth 20000 in
set_option maxHeartbeats 2000000 in
theorem deedOf_fail (n : Int) (t : List UInt8) (w : World) : Calls Tryz.prog 171 #[opV (7, n, t)] w (DeedPost (failV) true w) := by
  unfold opV failV
  simp only
  have HB := Lib.hid ((Below.refl w.heap.size w).alloc (Nat.le_refl _) (.cells #[.int .i64 7, .int .i64 n, .string ⟨t.toArray⟩] 158))
  go_enter Tryz.func171, Tryz.ntmps171
  go_wp2_with fail
  go_ret2
  exact ⟨rfl, HB.out⟩

set_option maxRecDepth 20000 in
set_option maxHeartbeats 2000000 in
theorem asOp_fail (w : World) : Calls Tryz.prog 269 #[.agg #[]] w (OpPost (7, 0, []) w) := by
  unfold OpPost opV
  simp only
  go_enter Tryz.func269, Tryz.ntmps269
  go_wp2_with fail
  refine bodyPost_ret (results_cellO rfl rfl (load_op (x := .int .i64 7) (y := .int .i64 0) (z := .string ⟨#[]⟩) (by go_simp) (by go_simp) (by go_simp))) rfl ?_
  exact ⟨rfl, ((Below.refl w.heap.size w).alloc (Nat.le_refl _) _).alloc (by simp) _⟩

set_option maxRecDepth 20000 in
set_option maxHeartbeats 2000000 in
theorem range_fail (ins : Int) (w : World) : Calls Tryz.prog 172 #[failV, .int .i64 ins] w (BPost true w) := by
  unfold failV
  have qcat := ta_fail_cat (.agg #[])
  have qtext := ta_fail_text (.agg #[])
  have qdrop := ta_fail_drop (.agg #[])
  go_enter Tryz.func172, Tryz.ntmps172
  go_wp2_with fail
  go_ret
  exact ⟨rfl, Below.refl _ _⟩

set_option maxRecDepth 20000 in
set_option maxHeartbeats 2000000 in
theorem deedOf_none (k n : Int) (t : List UInt8) (w : World) (h1 : k ≠ 1) (h2 : k ≠ 2) (h3 : k ≠ 3) (h4 : k ≠ 4) (h5 : k ≠ 5) (h6 : k ≠ 6) (h7 : k ≠ 7) : Calls Tryz.prog 171 #[opV (k, n, t)] w (DeedPost .nilIface false w) := by
  unfold opV
  simp only
  have HB := Lib.hid ((Below.refl w.heap.size w).alloc (Nat.le_refl _) (.cells #[.int .i64 k, .int .i64 n, .string ⟨t.toArray⟩] 158))
  have e1 : (k == 1) = false := by simpa using h1
  have e2 : (k == 2) = false := by simpa using h2
  have e3 : (k == 3) = false := by simpa using h3
  have e4 : (k == 4) = false := by simpa using h4
  have e5 : (k == 5) = false := by simpa using h5
  have e6 : (k == 6) = false := by simpa using h6
  have e7 : (k == 7) = false := by simpa using h7
  clear h1 h2 h3 h4 h5 h6 h7
  go_enter Tryz.func171, Tryz.ntmps171
  go_wp2_with fail
  go_ret2
  exact ⟨rfl, HB.out⟩

end Go.Proofs.YtcfhfhpdnjaokaaGreatDoor

/- Walks: the program's deeds of a recipe. -/
namespace Go.Proofs.YtcfhfhpdnjaokaaGreatDoor
open Go.RowKit Pth

def asO (o : OpT) : OpT := if o.1 = 1 then (1, o.2.1, []) else if o.1 = 2 then (2, 0, o.2.2) else if o.1 = 5 then (5, o.2.1, []) else (o.1, 0, [])
def rangeB (ins : Int) (o : OpT) : Bool := if o.1 = 1 then decide (0 ≤ o.2.1) && decide (o.2.1 < ins) else if o.1 = 2 then decide (o.2.2.length ≤ 10) else if o.1 = 5 then decide (0 ≤ o.2.1) && decide (o.2.1 ≤ 40) else true
def deedV (o : OpT) : Value :=
  if o.1 = 1 then catV o.2.1 else if o.1 = 2 then textV o.2.2 else if o.1 = 3 then upperV else if o.1 = 4 then sortV else if o.1 = 5 then dropV o.2.1 else if o.1 = 6 then countV else if o.1 = 7 then failV else .nilIface
def knownB (o : OpT) : Bool := decide (1 ≤ o.1) && decide (o.1 ≤ 7)
theorem as_cat {n : Int} {t : List UInt8} : decide (asO (1, n, t) = (1, n, t)) = decide (t = []) := decide_eq_decide.2 (by simp [asO, eq_comm])
theorem as_text {n : Int} {t : List UInt8} : decide (asO (2, n, t) = (2, n, t)) = decide (n = 0) := decide_eq_decide.2 (by simp [asO, eq_comm])
theorem as_drop {n : Int} {t : List UInt8} : decide (asO (5, n, t) = (5, n, t)) = decide (t = []) := decide_eq_decide.2 (by simp [asO, eq_comm])
theorem as_bare {k n : Int} {t : List UInt8} (h1 : k ≠ 1) (h2 : k ≠ 2) (h5 : k ≠ 5) : decide (asO (k, n, t) = (k, n, t)) = (decide (n = 0) && decide (t = [])) := by
  rw [← Bool.decide_and]
  refine decide_eq_decide.2 ?_
  simp only [asO, if_neg h1, if_neg h2, if_neg h5, Prod.mk.injEq, true_and]
  rw [eq_comm (a := (0 : Int)), eq_comm (a := ([] : List UInt8))]
theorem opOk_is (ins : Int) (o : OpT) : opOk ins o = (knownB o && (decide (asO o = o) && rangeB ins o)) := by
  obtain ⟨k, n, t⟩ := o
  by_cases h1 : k = 1
  · subst h1
    rw [opOk_cat, as_cat]
    have e : decide (n ≤ ins - 1) = decide (n < ins) := decide_eq_decide.2 (by omega)
    rw [e]
    simp only [knownB, rangeB, if_true]
    rw [Bool.and_comm]; rfl
  by_cases h2 : k = 2
  · subst h2
    rw [opOk_text, as_text]
    rfl
  by_cases h5 : k = 5
  · subst h5
    rw [opOk_drop, as_drop]
    simp only [knownB, rangeB]
    rw [Bool.and_comm]; rfl
  by_cases h3 : k = 3 ∨ k = 4 ∨ k = 6 ∨ k = 7
  · rw [opOk_bare h3, as_bare h1 h2 h5]
    have e1 : knownB (k, n, t) = true := by simp only [knownB, Bool.and_eq_true, decide_eq_true_eq]; omega
    rw [e1, rangeB, if_neg h1, if_neg h2, if_neg h5]
    simp
  · have h3' : k ≠ 3 ∧ k ≠ 4 ∧ k ≠ 6 ∧ k ≠ 7 := by omega
    rw [opOk_none h1 h2 h3'.1 h3'.2.1 h5 h3'.2.2.1 h3'.2.2.2]
    have : knownB (k, n, t) = false := by
      simp only [knownB, Bool.and_eq_false_iff, decide_eq_false_iff_not]
      omega
    rw [this]; rfl

def DC (r : List OpT) : List Value := r.map deedV
theorem DC_len (r : List OpT) : (DC r).length = r.length := by simp [DC]
theorem elemD : Elem 103 165 .nilIface 16 := ⟨Tryz.underlying103, by kernel_rfl, rfl, by decide⟩
theorem deedOf_any (o : OpT) (w : World) : Calls Tryz.prog 171 #[opV o] w (DeedPost (deedV o) (knownB o) w) := by
  obtain ⟨k, n, t⟩ := o
  by_cases h1 : k = 1
  · subst h1; exact deedOf_cat n t w
  by_cases h2 : k = 2
  · subst h2; exact deedOf_text n t w
  by_cases h3 : k = 3
  · subst h3; exact deedOf_upper n t w
  by_cases h4 : k = 4
  · subst h4; exact deedOf_sort n t w
  by_cases h5 : k = 5
  · subst h5; exact deedOf_drop n t w
  by_cases h6 : k = 6
  · subst h6; exact deedOf_count n t w
  by_cases h7 : k = 7
  · subst h7; exact deedOf_fail n t w
  have e : deedV (k, n, t) = .nilIface := by simp [deedV, h1, h2, h3, h4, h5, h6, h7]
  have e2 : knownB (k, n, t) = false := by
    simp only [knownB, Bool.and_eq_false_iff, decide_eq_false_iff_not]
    omega
  rw [e, e2]
  exact deedOf_none k n t w h1 h2 h3 h4 h5 h6 h7


theorem neq_op (o p : OpT) (w : World) : (binOp .neq 158 (opV o) (opV p)).run Tryz.prog w = .ok (.bool (!decide (o = p))) w := by
  obtain ⟨k, n, t⟩ := o
  obtain ⟨k', n', t'⟩ := p
  unfold opV
  go_simp
  by_cases h1 : k = k' <;> by_cases h2 : n = n' <;> by_cases h3 : t = t' <;> simp [h1, h2, h3]

/-- What is known of a deed. -/
structure DeedAt (o : OpT) (T : TypeId) (v : Value) (K : FuncId) : Prop where
  val : deedV o = .iface T v
  meth : ∀ (F : Nat) (w : World), (method (F + 1) T v "loop.example/g00636/impl.asOp").run Tryz.prog w = .ok (K, v) w
  ent : ∀ w : World, (callFunc K #[v]).run Tryz.prog w = .ok (.enter K #[v]) w
  told : ∀ w : World, Calls Tryz.prog K #[v] w (OpPost (asO o) w)
  rng : ∀ (ins : Int) (w : World), Calls Tryz.prog 172 #[.iface T v, .int .i64 ins] w (BPost (rangeB ins o) w)
theorem deed_at {o : OpT} (h : knownB o = true) : ∃ T v K, DeedAt o T v K := by
  obtain ⟨k, n, t⟩ := o
  simp only [knownB, Bool.and_eq_true, decide_eq_true_eq] at h
  have hk : k = 1 ∨ k = 2 ∨ k = 3 ∨ k = 4 ∨ k = 5 ∨ k = 6 ∨ k = 7 := by omega
  rcases hk with rfl | rfl | rfl | rfl | rfl | rfl | rfl
  · exact ⟨193, (.agg #[.int .i64 n]), 263, rfl, fun _ _ => by kernel_rfl, fun _ => by kernel_rfl, fun w => asOp_cat n w, fun ins w => range_cat n ins w⟩
  · exact ⟨195, (.agg #[.string ⟨t.toArray⟩]), 264, rfl, fun _ _ => by kernel_rfl, fun _ => by kernel_rfl, fun w => asOp_text t w, fun ins w => range_text t ins w⟩
  · exact ⟨197, (.agg #[]), 265, rfl, fun _ _ => by kernel_rfl, fun _ => by kernel_rfl, fun w => asOp_upper w, fun ins w => range_upper ins w⟩
  · exact ⟨198, (.agg #[]), 266, rfl, fun _ _ => by kernel_rfl, fun _ => by kernel_rfl, fun w => asOp_sort w, fun ins w => range_sort ins w⟩
  · exact ⟨200, (.agg #[.int .i64 n]), 267, rfl, fun _ _ => by kernel_rfl, fun _ => by kernel_rfl, fun w => asOp_drop n w, fun ins w => range_drop n ins w⟩
  · exact ⟨201, (.agg #[]), 268, rfl, fun _ _ => by kernel_rfl, fun _ => by kernel_rfl, fun w => asOp_count w, fun ins w => range_count ins w⟩
  · exact ⟨202, (.agg #[]), 269, rfl, fun _ _ => by kernel_rfl, fun _ => by kernel_rfl, fun w => asOp_fail w, fun ins w => range_fail ins w⟩

end Go.Proofs.YtcfhfhpdnjaokaaGreatDoor

/- A region that draws its order, whose first operations come in one forced order (a call that makes memory among them) and whose others only read: one walk in the order of the text. -/
namespace Go.Proofs.YtcfhfhpdnjaokaaGreatDoor
open Go.RowKit

theorem oper_wp_Q {P : Program} {o : Oper} {a : Act} {w : World} {K : Act → World → Prop} {Q Q' : Exit → Act → World → Prop} (hq : ∀ e a w, e ≠ .normal → Q e a w → Q' e a w) (hh : o.wp P a w K Q) : o.wp P a w K Q' := by
  unfold Oper.wp at *
  generalize (execOp a.eval o).run P w = r at *
  cases r with
  | ok n w' =>
    cases n <;> simp only [Oper.upon] at hh ⊢ <;>
      first
        | exact hh
        | exact Calls.mono hh (fun e w'' he => by cases e <;> first | exact he | exact hq _ _ _ (by simp) he | exact (let ⟨a, w, h⟩ := he; ⟨a, w, hq _ _ _ (by simp) h⟩))
  | halt x w' => cases x <;> simp only [Oper.upon] at hh ⊢ <;> first | exact hh | exact hq _ _ _ (by simp) hh

theorem lets_Q {Q Q' : Exit → Act → World → Prop} (hq : ∀ e a w, e ≠ .normal → Q e a w → Q' e a w) (h : LetsOut Q) : LetsOut Q' :=
  let ⟨a, w, h⟩ := h; ⟨a, w, hq _ _ _ (by simp) h⟩

theorem wpOp_Q {P : Program} {ops : Array Oper} {i : Nat} {a : Act} {w : World} {K : Act → World → Prop} {Q Q' : Exit → Act → World → Prop} (hq : ∀ e a w, e ≠ .normal → Q e a w → Q' e a w) (hh : wpOp P ops Q i K a w) : wpOp P ops Q' i K a w := by
  unfold wpOp at *
  split
  · simpa [*] using hh
  · rename_i o ho
    simp only [ho] at hh
    split
    · rename_i hw; simp only [hw, if_true] at hh; exact hh.imp (oper_wp_Q hq) (fun h => ⟨h.1, lets_Q hq h.2⟩)
    · rename_i hw; simp only [hw] at hh; exact hh

/-- T behind the head, Q at whatever else. -/
def Then (T : Act → World → Prop) (Q : Exit → Act → World → Prop) : Exit → Act → World → Prop
  | .normal, a, w => T a w
  | e, a, w => Q e a w
theorem then_normal {T : Act → World → Prop} {Q : Exit → Act → World → Prop} {a : Act} {w : World} (h : T a w) : Then T Q .normal a w := h
theorem then_Q {T : Act → World → Prop} {Q : Exit → Act → World → Prop} : ∀ e a w, e ≠ .normal → Then T Q e a w → Q e a w := fun e a w he h => by
  cases e <;> first | exact absurd rfl he | exact h

def headB (ops : Array Oper) : Nat → Nat → Array Bool → Bool
  | 0, _, _ => true
  | g + 1, k, listed => decide (Region.ready .any ops listed = [k]) && headB ops g (k + 1) (listed.setIfInBounds k true)
def setAll : Nat → Nat → Array Bool → Array Bool
  | 0, _, listed => listed
  | g + 1, k, listed => setAll g (k + 1) (listed.setIfInBounds k true)

theorem wpAny_head {P : Program} {ops : Array Oper} {T : Act → World → Prop} {Q : Exit → Act → World → Prop} {r : Nat} : ∀ (l : List Oper) (k : Nat) (listed : Array Bool) (a : Act) (w : World), (∀ j, j < l.length → l[j]? = ops[k + j]?) →
    headB ops l.length k listed = true → (∀ a w, T a w → wpAny P .any ops Q r (setAll l.length k listed) a w) → wpList P ops (Then T Q) l a w → wpAny P .any ops Q (l.length + r) listed a w
  | [], _, _, _, _, _, _, hT, h => by
    simp only [List.length_nil, Nat.zero_add]
    exact hT _ _ h
  | o :: l, k, listed, a, w, hl, hB, hT, h => by
    have h0 : ops[k]? = some o := by have := hl 0 (by simp); simpa using this.symm
    simp only [List.length_cons, headB, Bool.and_eq_true, decide_eq_true_eq] at hB
    have e : (o :: l).length + r = (l.length + r) + 1 := by simp only [List.length_cons]; omega
    rw [e]
    refine ⟨fun h1 => (by rw [hB.1] at h1; cases h1), fun i hi => ?_⟩
    rw [hB.1] at hi
    have hik : i = k := by simpa using hi
    subst hik
    have hw : wpOp P ops (Then T Q) i (wpList P ops (Then T Q) l) a w := by unfold wpOp; simp only [h0]; exact h
    exact wpOp_Q then_Q (wpOp_mono (fun a' w' h' => wpAny_head l (i + 1) _ a' w' (fun j hj => by have := hl (j + 1) (by simp; omega); simpa [Nat.add_assoc, Nat.add_comm 1 j] using this) hB.2 hT h') hw)

theorem wp_region_head_quiet {P : Program} {id : Nat} {Q : Exit → Act → World → Prop} {a : Act} {w : World} {l : List Oper} (n : Nat) (hm : P.follows .mixedOrders = true) (hs : Region.noSelect l.toArray = true)
    (hH : headB l.toArray (l.take n).length 0 (Array.replicate l.toArray.size false) = true) (hL : Region.lexFrom .any l.toArray (l.drop n).length n (setAll (l.take n).length 0 (Array.replicate l.toArray.size false)) = true) (hn : n ≤ l.length)
    (h : wpList P l.toArray (Then (fun a' w' => wpQuiet P l.toArray (fun x => ∃ m, x = w'.drewN m) (fun a'' => ∀ x, (∃ m, x = w'.drewN m) → Q .normal a'' x) (l.drop n) a') Q) (l.take n) a { w with drawn := w.drawn + 1 }) : (Code.region id l.toArray true).wp P Q a w := by
  have htl : (l.take n).length = n := by rw [List.length_take]; omega
  refine wp_region_any hm ?_
  have H := wpAny_head (Q := Q) (r := (l.drop n).length) (l.take n) 0 (Array.replicate l.toArray.size false) a { w with drawn := w.drawn + 1 } (fun j hj => by
    rw [htl] at hj
    simp [hj]) hH (fun a' w' h' => ?_) h
  · have e : (l.take n).length + (l.drop n).length = l.toArray.size := by rw [htl, List.length_drop]; simp; omega
    rw [e] at H
    exact H
  · refine wpAny_of_quiet (C := fun x => ∃ m, x = w'.drewN m) (Q := fun a'' => ∀ x, (∃ m, x = w'.drewN m) → Q .normal a'' x) (fun a w hw h => h w hw) _ _ _ _ ⟨0, rfl⟩ ?_
    exact wpAnyQ_lex hs (l.drop n) n _ _ (fun j => by simp [List.getElem?_drop]) hL h'

end Go.Proofs.YtcfhfhpdnjaokaaGreatDoor

/- A region that draws its order, in which behind a forced head a call that makes memory and a load may change places, and whose others only read: three walks. -/
namespace Go.Proofs.YtcfhfhpdnjaokaaGreatDoor
open Go.RowKit

/-- Behind those that are listed: n and n + 2 may come, n + 1 behind n; nothing else ahead of all three. -/
def diaB (ops : Array Oper) (n : Nat) (L : Array Bool) : Bool :=
  decide (Region.ready .any ops L = [n, n + 2]) && (decide (Region.ready .any ops (L.setIfInBounds n true) = [n + 1, n + 2]) && (decide (Region.ready .any ops (L.setIfInBounds (n + 2) true) = [n]) &&
  (decide (Region.ready .any ops ((L.setIfInBounds n true).setIfInBounds (n + 1) true) = [n + 2]) && (decide (Region.ready .any ops ((L.setIfInBounds n true).setIfInBounds (n + 2) true) = [n + 1]) && (decide (Region.ready .any ops ((L.setIfInBounds (n + 2) true).setIfInBounds n true) = [n + 1]) &&
  (decide (((L.setIfInBounds n true).setIfInBounds (n + 2) true).setIfInBounds (n + 1) true = ((L.setIfInBounds n true).setIfInBounds (n + 1) true).setIfInBounds (n + 2) true) &&
  decide (((L.setIfInBounds (n + 2) true).setIfInBounds n true).setIfInBounds (n + 1) true = ((L.setIfInBounds n true).setIfInBounds (n + 1) true).setIfInBounds (n + 2) true)))))))

theorem wpAny_one {P : Program} {ops : Array Oper} {Q : Exit → Act → World → Prop} {r i : Nat} {L : Array Bool} {a : Act} {w : World} (hr : Region.ready .any ops L = [i]) (h : wpOp P ops Q i (wpAny P .any ops Q r (L.setIfInBounds i true)) a w) : wpAny P .any ops Q (r + 1) L a w := by
  refine ⟨fun h1 => (by rw [hr] at h1; cases h1), fun j hj => ?_⟩
  rw [hr] at hj
  have hj' : j = i := by simpa using hj
  subst hj'
  exact h
theorem wpAny_two {P : Program} {ops : Array Oper} {Q : Exit → Act → World → Prop} {r i k : Nat} {L : Array Bool} {a : Act} {w : World} (hr : Region.ready .any ops L = [i, k]) (h : wpOp P ops Q i (wpAny P .any ops Q r (L.setIfInBounds i true)) a w) (h' : wpOp P ops Q k (wpAny P .any ops Q r (L.setIfInBounds k true)) a w) : wpAny P .any ops Q (r + 1) L a w := by
  refine ⟨fun h1 => (by rw [hr] at h1; cases h1), fun j hj => ?_⟩
  rw [hr] at hj
  have hj' : j = i ∨ j = k := by simpa using hj
  rcases hj' with rfl | rfl
  · exact h
  · exact h'
theorem wpOp_of_list {P : Program} {ops : Array Oper} {Q Q' : Exit → Act → World → Prop} {i : Nat} {o : Oper} {rest : List Oper} {K : Act → World → Prop} {a : Act} {w : World} (ho : ops[i]? = some o) (hq : ∀ e a w, e ≠ .normal → Q' e a w → Q e a w)
    (hk : ∀ a w, wpList P ops Q' rest a w → K a w) (h : wpList P ops Q' (o :: rest) a w) : wpOp P ops Q i K a w := by
  have h1 : wpOp P ops Q' i (wpList P ops Q' rest) a w := by unfold wpOp; simp only [ho]; exact h
  exact wpOp_Q hq (wpOp_mono hk h1)

theorem wpOp_last {P : Program} {ops : Array Oper} {T : Act → World → Prop} {Q : Exit → Act → World → Prop} {i : Nat} {o : Oper} {K : Act → World → Prop} {a : Act} {w : World} (ho : ops[i]? = some o) (hT : ∀ a w, T a w → K a w) (h : wpList P ops (Then T Q) [o] a w) : wpOp P ops Q i K a w :=
  wpOp_of_list (rest := []) ho then_Q (fun a w k => hT a w k) h
theorem wpOp_more {P : Program} {ops : Array Oper} {T : Act → World → Prop} {Q : Exit → Act → World → Prop} {i : Nat} {o p : Oper} {rest : List Oper} {K : Act → World → Prop} {a : Act} {w : World} (ho : ops[i]? = some o) (hT : ∀ a w, wpList P ops (Then T Q) (p :: rest) a w → K a w) (h : wpList P ops (Then T Q) (o :: p :: rest) a w) : wpOp P ops Q i K a w :=
  wpOp_of_list (rest := p :: rest) ho then_Q hT h
theorem wpAny_dia {P : Program} {ops : Array Oper} {T : Act → World → Prop} {Q : Exit → Act → World → Prop} {r n : Nat} {L : Array Bool} {a : Act} {w : World} {x y z : Oper} (hx : ops[n]? = some x) (hy : ops[n + 1]? = some y) (hz : ops[n + 2]? = some z)
    (hD : diaB ops n L = true) (hT : ∀ a w, T a w → wpAny P .any ops Q r (((L.setIfInBounds n true).setIfInBounds (n + 1) true).setIfInBounds (n + 2) true) a w)
    (h1 : wpList P ops (Then (fun a w => wpList P ops (Then T Q) [y, z] a w ∧ wpList P ops (Then T Q) [z, y] a w) Q) [x] a w) (h3 : wpList P ops (Then T Q) [z, x, y] a w) : wpAny P .any ops Q (r + 3) L a w := by
  simp only [diaB, Bool.and_eq_true, decide_eq_true_eq] at hD
  obtain ⟨d1, d2, d3, d4, d5, d6, d7, d8⟩ := hD
  refine wpAny_two d1 ?_ ?_
  · refine wpOp_last hx (fun a w k => ?_) h1
    obtain ⟨k1, k2⟩ : wpList P ops (Then T Q) [y, z] a w ∧ wpList P ops (Then T Q) [z, y] a w := k
    exact wpAny_two d2 (wpOp_more hy (fun a w k => wpAny_one d4 (wpOp_last hz hT k)) k1)
      (wpOp_more hz (fun a w k => wpAny_one d5 (wpOp_last hy (fun a w k => by rw [d7]; exact hT a w k) k)) k2)
  · exact wpOp_more hz (fun a w k => wpAny_one d3 (wpOp_more hx (fun a w k => wpAny_one d6 (wpOp_last hy (fun a w k => by rw [d8]; exact hT a w k) k)) k)) h3

/-- What is left behind the three: it only reads. -/
def Quiets (P : Program) (l : List Oper) (m : Nat) (Q : Exit → Act → World → Prop) (a : Act) (w : World) : Prop :=
  wpQuiet P l.toArray (fun x => ∃ j, x = w.drewN j) (fun a' => ∀ x, (∃ j, x = w.drewN j) → Q .normal a' x) (l.drop m) a

theorem wp_region_dia {P : Program} {id : Nat} {Q : Exit → Act → World → Prop} {a : Act} {w : World} {l : List Oper} (n : Nat) (x y z : Oper) (hx : l[n]? = some x) (hy : l[n + 1]? = some y) (hz : l[n + 2]? = some z) (hm : P.follows .mixedOrders = true) (hs : Region.noSelect l.toArray = true)
    (hH : headB l.toArray (l.take n).length 0 (Array.replicate l.toArray.size false) = true) (hD : diaB l.toArray n (setAll (l.take n).length 0 (Array.replicate l.toArray.size false)) = true)
    (hL : Region.lexFrom .any l.toArray (l.drop (n + 3)).length (n + 3) ((((setAll (l.take n).length 0 (Array.replicate l.toArray.size false)).setIfInBounds n true).setIfInBounds (n + 1) true).setIfInBounds (n + 2) true) = true) (hn : n + 3 ≤ l.length)
    (h : wpList P l.toArray (Then (fun a' w' => wpList P l.toArray (Then (fun a w => wpList P l.toArray (Then (Quiets P l (n + 3) Q) Q) [y, z] a w ∧ wpList P l.toArray (Then (Quiets P l (n + 3) Q) Q) [z, y] a w) Q) [x] a' w' ∧ wpList P l.toArray (Then (Quiets P l (n + 3) Q) Q) [z, x, y] a' w') Q) (l.take n) a { w with drawn := w.drawn + 1 }) : (Code.region id l.toArray true).wp P Q a w := by
  have htl : (l.take n).length = n := by rw [List.length_take]; omega
  refine wp_region_any hm ?_
  have H := wpAny_head (Q := Q) (r := (l.drop (n + 3)).length + 3) (l.take n) 0 (Array.replicate l.toArray.size false) a { w with drawn := w.drawn + 1 } (fun j hj => by
    rw [htl] at hj
    simp [hj]) hH (fun a' w' h' => wpAny_dia (by simpa using hx) (by simpa using hy) (by simpa using hz) hD (fun a w hq => ?_) h'.1 h'.2) h
  · have e : (l.take n).length + ((l.drop (n + 3)).length + 3) = l.toArray.size := by rw [htl, List.length_drop]; simp; omega
    rw [e] at H
    exact H
  · refine wpAny_of_quiet (C := fun x => ∃ m, x = w.drewN m) (Q := fun a'' => ∀ x, (∃ m, x = w.drewN m) → Q .normal a'' x) (fun a w hw h => h w hw) _ _ _ _ ⟨0, rfl⟩ ?_
    exact wpAnyQ_lex hs (l.drop (n + 3)) (n + 3) _ _ (fun j => by simp [List.getElem?_drop]) hL hq

end Go.Proofs.YtcfhfhpdnjaokaaGreatDoor

/- Walks: the program's deeds of a recipe, and whether it is good. -/
namespace Go.Proofs.YtcfhfhpdnjaokaaGreatDoor
open Go.RowKit Pth

/-- Deeds and whether they stand are handed back, in memory of the call's own. -/
def DeedsPost (r : List OpT) (ok : Bool) (w : World) (e : Ending) (w' : World) : Prop :=
  ∃ v, e = .returned (.tuple #[v, .bool ok]) ∧ w'.ownsRow w.heap.size 165 1 v (if ok then r else []).length (DC (if ok then r else [])) ∧ Below w.heap.size w w'
theorem none_ownD (w : World) (B e : Nat) : w.ownsRow B e 1 (.slice none 0 0) 0 [] := ⟨rfl, .inl ⟨rfl, rfl⟩⟩
theorem DC_next {r : List OpT} {k : Nat} (hk : k < r.length) : DC (r.take (k + 1)) = DC (r.take k) ++ [deedV r[k]] := by
  rw [List.take_succ_eq_append_getElem hk]; unfold DC; rw [List.map_append]; rfl
theorem deedOf_b {o : OpT} {T : TypeId} {v : Value} (h : deedV o = .iface T v) (hk : knownB o = true) (w : World) : Calls Tryz.prog 171 #[opV o] w (DeedPost (.iface T v) true w) := by
  have := deedOf_any o w; rwa [h, hk] at this
theorem deedOf_n {o : OpT} (hk : knownB o = false) (w : World) : Calls Tryz.prog 171 #[opV o] w fun e w' => ∃ d, e = .returned (.tuple #[d, .bool false]) ∧ Below w.heap.size w w' := by
  have := deedOf_any o w
  rw [hk] at this
  exact this.mono fun e w' h => ⟨_, h⟩

theorem deeds_bad {r : List OpT} {ok : Bool} {w w' : World} (h : ok = false) (hb : Below w.heap.size w w') : DeedsPost r ok w (.returned (.tuple #[.slice none 0 0, .bool false])) w' := by
  subst h
  exact ⟨_, rfl, none_ownD _ _ _, hb⟩
theorem deeds_good {r : List OpT} {ok : Bool} {w w' : World} {v : Value} (h : ok = true) (hn : w'.ownsRow w.heap.size 165 1 v r.length (DC r)) (hb : Below w.heap.size w w') : DeedsPost r ok w (.returned (.tuple #[v, .bool true])) w' := by
  subst h
  exact ⟨_, rfl, hn, hb⟩

set_option maxRecDepth 20000 in
set_option maxHeartbeats 4000000 in
theorem deedsOf_any (r : List OpT) (ins : Int) (v : Value) (w : World) (hrow : RowO w v r) :
    Calls Tryz.prog 135 #[v, .int .i64 ins] w (DeedsPost r (goodR r ins) w) := by
  obtain ⟨a, cap, rfl, hc1, hc2, hat⟩ := hrow.ops
  clear hrow
  unfold maxLen at hc2
  by_cases h8 : 8 < r.length
  · rw [goodR_long h8]
    have hd : decide ((r.length : Int) > 8) = true := decide_eq_true (by omega)
    clear hat
    go_enter Tryz.func135, Tryz.ntmps135
    go_wp2_with fail
    go_ret2
    exact ⟨_, rfl, none_ownD _ _ _, Below.refl _ _⟩
  have hd : decide ((r.length : Int) > 8) = false := decide_eq_false (by omega)
  by_cases hi0 : 0 ≤ ins
  · have d1 : decide (ins < 0) = false := decide_eq_false (by omega)
    by_cases hi1 : ins ≤ 10
    · have d2 : decide (ins > 10) = false := decide_eq_false (by omega)
      go_enter Tryz.func135, Tryz.ntmps135
      go_wp2_with fail
      go_loopw [6, 24] (fun q i wr => ∃ k : Nat, k ≤ r.length ∧ i = .int .i64 k ∧ Hid (Below w.heap.size w wr) ∧ Hid ((r.take k).all (opOk ins) = true) ∧ Hid (wr.ownsRow w.heap.size 165 1 q (DC (r.take k)).length (DC (r.take k)))) (fun _ i _ => r.length - (intOf i).toNat)
      case atStart => exact ⟨0, Nat.zero_le _, rfl, Below.refl _ _, by simp [Hid], none_ownD _ _ _⟩
      case round =>
        obtain ⟨k, hk, rfl, HB, HO, HN⟩ := hrel
        have hbs := HB.out.size
        have hdl : (DC (r.take k)).length ≤ 8 := by rw [DC_len, List.length_take]; omega
        by_cases hlt : k < r.length
        · obtain ⟨g, o, rfl, hg, hcell1, hcell2, hcell3⟩ := hat k hlt
          have s1 := (HB.out.cell (p := ⟨g, o + k * 3, none⟩) hg).trans hcell1
          have s2 := (HB.out.cell (p := ⟨g, o + k * 3 + 1, none⟩) hg).trans hcell2
          have s3 := (HB.out.cell (p := ⟨g, o + k * 3 + 2, none⟩) hg).trans hcell3
          obtain ⟨wa, hwa⟩ : ∃ wa, wa = wr.alloc (.cells #[.int .i64 r[k].1, .int .i64 r[k].2.1, .string ⟨r[k].2.2.toArray⟩] 158) := ⟨_, rfl⟩
          have HBA : Hid (Below w.heap.size w wa) := by rw [hwa]; exact HB.out.alloc hbs _
          have HNA := Lib.hid (HN.out.alloc (.cells #[.int .i64 r[k].1, .int .i64 r[k].2.1, .string ⟨r[k].2.2.toArray⟩] 158))
          rw [← hwa] at HNA
          have hsz : wr.heap.size < wa.heap.size := by rw [hwa]; simp
          have p0 : wa.cell? ⟨wr.heap.size, 0, none⟩ = some (.int .i64 r[k].1) := by rw [hwa]; simp
          have p1 : wa.cell? ⟨wr.heap.size, 1, none⟩ = some (.int .i64 r[k].2.1) := by rw [hwa]; simp
          have p2 : wa.cell? ⟨wr.heap.size, 2, none⟩ = some (.string ⟨r[k].2.2.toArray⟩) := by rw [hwa]; simp
          have HWA := Lib.hid hwa
          have HIS := Lib.hid (opOk_is ins r[k])
          have HNX := Lib.hid (DC_next hlt)
          have HGB := Lib.hid (fun h => goodR_bad (ins := ins) hlt h)
          have HGG := Lib.hid (fun h => all_next hlt HO.out h)
          clear hcell1 hcell2 hcell3 hat HO HN hwa HB
          generalize r[k] = x at s1 s2 s3 HWA HIS HNX HGB HGG p0 p1 p2
          rcases hkn : knownB x with _ | _
          · have HC := Lib.hid (fun W => deedOf_n hkn W)
            have HG := Lib.hid (HGB.out (by rw [HIS.out, hkn]; rfl))
            clear HIS HNX HGB HGG hkn HNA
            obtain ⟨x1, x2, x3⟩ := x
            unfold opV at HC
            simp only at s1 s2 s3 HC HWA p0 p1 p2
            go_wp2_with fail
            rw [← HWA.out]
            refine (HC.out _).mono ?_
            rintro e w1 ⟨d, rfl, hb1⟩
            have HB1 := Lib.hid (HBA.out.trans (hb1.mono HBA.out.size))
            clear hb1 HC
            go_wp2_with fail
            go_quiet (fail)
            go_wp2_with fail
            go_ret2
            exact deeds_bad HG.out (below_drewN HB1.out _)
          · obtain ⟨T, dv, K, D⟩ := deed_at hkn
            have HC := Lib.hid (fun W => deedOf_b D.val hkn W)
            have hme := D.meth
            have hen := D.ent
            have HAS := Lib.hid D.told
            have HRG := Lib.hid (D.rng ins)
            have HV := Lib.hid D.val
            have hnq := fun W => neq_op (asO x) x W
            obtain ⟨b, hb⟩ : ∃ b, decide (asO x = x) = b := ⟨_, rfl⟩
            have HOK : Hid (opOk ins x = (b && rangeB ins x)) := by rw [HIS.out, hkn, hb]; rfl
            rw [hb] at hnq
            clear HIS hkn D hb
            generalize asO x = y at HAS hnq
            generalize rangeB ins x = rb at HRG HOK
            rcases b with _ | _
            · have HG := Lib.hid (HGB.out HOK.out)
              simp only [Bool.not_false] at hnq
              clear HOK HGB HGG HNX HRG HNA HV
              obtain ⟨x1, x2, x3⟩ := x
              obtain ⟨y1, y2, y3⟩ := y
              unfold opV at HC hnq
              unfold OpPost opV at HAS
              simp only at s1 s2 s3 HC HWA p0 p1 p2 HAS hnq
              go_wp2_with fail
              rw [← HWA.out]
              refine (HC.out _).mono ?_
              rintro e w1 ⟨rfl, hb1⟩
              have HB1 := Lib.hid (HBA.out.trans (hb1.mono HBA.out.size))
              have c0 := (hb1.cell (p := ⟨wr.heap.size, 0, none⟩) hsz).trans p0
              have c1 := (hb1.cell (p := ⟨wr.heap.size, 1, none⟩) hsz).trans p1
              have c2 := (hb1.cell (p := ⟨wr.heap.size, 2, none⟩) hsz).trans p2
              have hsz1 : wr.heap.size < w1.heap.size := Nat.lt_of_lt_of_le hsz hb1.size
              clear hb1 HC p0 p1 p2
              go_wp2_with fail
              refine wp_region_dia 3 _ _ _ rfl rfl rfl (by kernel_rfl) (by kernel_rfl) (by kernel_rfl) (by kernel_rfl) (by kernel_rfl) (by decide) ?_
              simp only [List.take_succ_cons, List.take_zero]
              go_wp2_with fail
              refine then_normal ⟨?_, ?_⟩
              · go_wp2_with fail
                refine then_normal ⟨?_, ?_⟩
                · go_wp2_with fail
                  refine (HAS.out _).mono ?_
                  rintro e w5 ⟨rfl, hb5⟩
                  have k0 := (hb5.cell (p := ⟨wr.heap.size, 0, none⟩) hsz1).trans c0
                  have k1 := (hb5.cell (p := ⟨wr.heap.size, 1, none⟩) hsz1).trans c1
                  have k2 := (hb5.cell (p := ⟨wr.heap.size, 2, none⟩) hsz1).trans c2
                  have HB5 := Lib.hid ((Below.drew HB1.out).trans (hb5.mono HB1.out.size))
                  clear hb5
                  go_wp2_with fail
                  refine then_normal ?_
                  unfold Quiets
                  simp only [List.drop_succ_cons, List.drop_zero]
                  repeat (go_big_quiet_step (fail))
                  refine wpQuiet_nil ?_
                  intro _ hw'
                  obtain ⟨nq, hw''⟩ := hw'
                  subst hw''
                  go_wp2_with fail
                  go_ret2
                  exact deeds_bad HG.out (below_drewN HB5.out nq)
                · go_wp2_with fail
                  refine (HAS.out _).mono ?_
                  rintro e w5 ⟨rfl, hb5⟩
                  have k0 := (hb5.cell (p := ⟨wr.heap.size, 0, none⟩) hsz1).trans c0
                  have k1 := (hb5.cell (p := ⟨wr.heap.size, 1, none⟩) hsz1).trans c1
                  have k2 := (hb5.cell (p := ⟨wr.heap.size, 2, none⟩) hsz1).trans c2
                  have HB5 := Lib.hid ((Below.drew HB1.out).trans (hb5.mono HB1.out.size))
                  clear hb5
                  go_wp2_with fail
                  refine then_normal ?_
                  unfold Quiets
                  simp only [List.drop_succ_cons, List.drop_zero]
                  repeat (go_big_quiet_step (fail))
                  refine wpQuiet_nil ?_
                  intro _ hw'
                  obtain ⟨nq, hw''⟩ := hw'
                  subst hw''
                  go_wp2_with fail
                  go_ret2
                  exact deeds_bad HG.out (below_drewN HB5.out nq)
              · go_wp2_with fail
                refine (HAS.out _).mono ?_
                rintro e w5 ⟨rfl, hb5⟩
                have k0 := (hb5.cell (p := ⟨wr.heap.size, 0, none⟩) hsz1).trans c0
                have k1 := (hb5.cell (p := ⟨wr.heap.size, 1, none⟩) hsz1).trans c1
                have k2 := (hb5.cell (p := ⟨wr.heap.size, 2, none⟩) hsz1).trans c2
                have HB5 := Lib.hid ((Below.drew HB1.out).trans (hb5.mono HB1.out.size))
                clear hb5
                go_wp2_with fail
                refine then_normal ?_
                unfold Quiets
                simp only [List.drop_succ_cons, List.drop_zero]
                repeat (go_big_quiet_step (fail))
                refine wpQuiet_nil ?_
                intro _ hw'
                obtain ⟨nq, hw''⟩ := hw'
                subst hw''
                go_wp2_with fail
                go_ret2
                exact deeds_bad HG.out (below_drewN HB5.out nq)
            · simp only [Bool.not_true] at hnq
              rcases rb with _ | _
              · have HG := Lib.hid (HGB.out HOK.out)
                clear HOK HGB HGG HNX HNA HV
                obtain ⟨x1, x2, x3⟩ := x
                obtain ⟨y1, y2, y3⟩ := y
                unfold opV at HC hnq
                unfold OpPost opV at HAS
                simp only at s1 s2 s3 HC HWA p0 p1 p2 HAS hnq
                go_wp2_with fail
                rw [← HWA.out]
                refine (HC.out _).mono ?_
                rintro e w1 ⟨rfl, hb1⟩
                have HB1 := Lib.hid (HBA.out.trans (hb1.mono HBA.out.size))
                have c0 := (hb1.cell (p := ⟨wr.heap.size, 0, none⟩) hsz).trans p0
                have c1 := (hb1.cell (p := ⟨wr.heap.size, 1, none⟩) hsz).trans p1
                have c2 := (hb1.cell (p := ⟨wr.heap.size, 2, none⟩) hsz).trans p2
                have hsz1 : wr.heap.size < w1.heap.size := Nat.lt_of_lt_of_le hsz hb1.size
                clear hb1 HC p0 p1 p2
                go_wp2_with fail
                go_region_held3 (fun w' => w'.cell? ⟨wr.heap.size, 0, none⟩ = some (.int .i64 x1) ∧ w'.cell? ⟨wr.heap.size, 1, none⟩ = some (.int .i64 x2) ∧ w'.cell? ⟨wr.heap.size, 2, none⟩ = some (.string ⟨x3.toArray⟩)) (first | exact ⟨c0, c1, c2⟩ | exact ks | exact kt)
                  (first | (go_at_call 172; refine (HRG.out _).mono ?_; rintro e w6 ⟨rfl, hb6⟩; have HB6 := Lib.hid (HB5.out.trans (hb6.mono HB5.out.size)); have kt := And.intro ((hb6.cell (p := ⟨wr.heap.size, 0, none⟩) (World.block_lt_of_cell? _ _ ks.1)).trans ks.1) (And.intro ((hb6.cell (p := ⟨wr.heap.size, 1, none⟩) (World.block_lt_of_cell? _ _ ks.2.1)).trans ks.2.1) ((hb6.cell (p := ⟨wr.heap.size, 2, none⟩) (World.block_lt_of_cell? _ _ ks.2.2)).trans ks.2.2)); clear hb6) | (refine (HAS.out _).mono ?_; rintro e w5 ⟨rfl, hb5⟩; have ks := And.intro ((hb5.cell (p := ⟨wr.heap.size, 0, none⟩) hsz1).trans c0) (And.intro ((hb5.cell (p := ⟨wr.heap.size, 1, none⟩) hsz1).trans c1) ((hb5.cell (p := ⟨wr.heap.size, 2, none⟩) hsz1).trans c2)); have HB5 := Lib.hid ((Below.drew HB1.out).trans (hb5.mono HB1.out.size)); clear hb5))
                all_goals
                  go_wp2_with fail
                  go_ret2
                  exact deeds_bad HG.out HB6.out
              · have HG := Lib.hid (HGG.out HOK.out)
                clear HOK HGB HGG
                obtain ⟨x1, x2, x3⟩ := x
                obtain ⟨y1, y2, y3⟩ := y
                rw [HV.out] at HNX
                clear HV
                unfold opV at HC hnq
                unfold OpPost opV at HAS
                simp only at s1 s2 s3 HC HWA p0 p1 p2 HAS hnq
                go_wp2_with fail
                rw [← HWA.out]
                refine (HC.out _).mono ?_
                rintro e w1 ⟨rfl, hb1⟩
                have HB1 := Lib.hid (HBA.out.trans (hb1.mono HBA.out.size))
                have HN1 := Lib.hid (own_below HNA.out hb1)
                have c0 := (hb1.cell (p := ⟨wr.heap.size, 0, none⟩) hsz).trans p0
                have c1 := (hb1.cell (p := ⟨wr.heap.size, 1, none⟩) hsz).trans p1
                have c2 := (hb1.cell (p := ⟨wr.heap.size, 2, none⟩) hsz).trans p2
                have hsz1 : wr.heap.size < w1.heap.size := Nat.lt_of_lt_of_le hsz hb1.size
                clear hb1 HC p0 p1 p2 HNA
                go_wp2_with fail
                go_region_held3 (fun w' => w'.cell? ⟨wr.heap.size, 0, none⟩ = some (.int .i64 x1) ∧ w'.cell? ⟨wr.heap.size, 1, none⟩ = some (.int .i64 x2) ∧ w'.cell? ⟨wr.heap.size, 2, none⟩ = some (.string ⟨x3.toArray⟩)) (first | exact ⟨c0, c1, c2⟩ | exact ks | exact kt)
                  (first | (go_at_call 172; refine (HRG.out _).mono ?_; rintro e w6 ⟨rfl, hb6⟩; have HB6 := Lib.hid (HB5.out.trans (hb6.mono HB5.out.size)); have HN6 := Lib.hid (own_below HN5.out hb6); have kt := And.intro ((hb6.cell (p := ⟨wr.heap.size, 0, none⟩) (World.block_lt_of_cell? _ _ ks.1)).trans ks.1) (And.intro ((hb6.cell (p := ⟨wr.heap.size, 1, none⟩) (World.block_lt_of_cell? _ _ ks.2.1)).trans ks.2.1) ((hb6.cell (p := ⟨wr.heap.size, 2, none⟩) (World.block_lt_of_cell? _ _ ks.2.2)).trans ks.2.2)); clear hb6) | (refine (HAS.out _).mono ?_; rintro e w5 ⟨rfl, hb5⟩; have ks := And.intro ((hb5.cell (p := ⟨wr.heap.size, 0, none⟩) hsz1).trans c0) (And.intro ((hb5.cell (p := ⟨wr.heap.size, 1, none⟩) hsz1).trans c1) ((hb5.cell (p := ⟨wr.heap.size, 2, none⟩) hsz1).trans c2)); have HB5 := Lib.hid ((Below.drew HB1.out).trans (hb5.mono HB1.out.size)); have HN5 := Lib.hid (own_below (show w1.drew.ownsRow _ _ _ _ _ _ from HN1.out) hb5); clear hb5))
                all_goals
                  go_wp2_with (at_builtin; refine wpAppOne elemD rfl _ _ rfl w.heap.size _ (DC (r.take k)) rfl HN6.out _ rfl rfl rfl (by omega) HB6.out.size ?_; intro v7 w7 hown7 hg7; have HN7 := Lib.hid hown7; have HB7 := Lib.hid (HB6.out.trans (below_own HN6.out hg7 HB6.out.size)); clear hown7 hg7)
                  go_roundw
                  case rel => exact ⟨k + 1, by omega, by go_num, HB7, HG, by rw [HNX.out]; exact HN7.out⟩
                  case measure => simp [intOf]; omega
        · have HG := Lib.hid (goodR_end hi0 hi1 (by omega) (by omega : r.length ≤ k) HO.out)
          rw [List.take_of_length_le (by omega), DC_len] at HN
          clear HO hat
          go_wp2_with fail
          go_ret2
          exact deeds_good HG.out HN.out HB.out
    · have d2 : decide (ins > 10) = true := decide_eq_true (by omega)
      rw [goodR_ins (by omega)]
      clear hat
      go_enter Tryz.func135, Tryz.ntmps135
      go_wp2_with fail
      go_ret2
      exact ⟨_, rfl, none_ownD _ _ _, Below.refl _ _⟩
  · have d1 : decide (ins < 0) = true := decide_eq_true (by omega)
    rw [goodR_ins (by omega)]
    clear hat
    go_enter Tryz.func135, Tryz.ntmps135
    go_wp2_with fail
    go_ret2
    exact ⟨_, rfl, none_ownD _ _ _, Below.refl _ _⟩

end Go.Proofs.YtcfhfhpdnjaokaaGreatDoor

/- Walks: the program's good recipes and what they read. -/
namespace Go.Proofs.YtcfhfhpdnjaokaaGreatDoor
open Go.RowKit Pth

set_option maxHeartbeats 1000000 in
theorem implGoodR_any (r : List OpT) (ins : Int) (v : Value) (w : World) (hrow : RowO w v r) :
    Calls Tryz.prog 76 #[v, .int .i64 ins] w (BPost (goodR r ins) w) := by
  have HC := Lib.hid (deedsOf_any r ins v w hrow)
  generalize goodR r ins = b at HC
  clear hrow
  go_enter Tryz.func76, Tryz.ntmps76
  go_wp2_with fail
  refine HC.out.mono ?_
  rintro e w1 ⟨v1, rfl, _, hb1⟩
  have HB1 := Lib.hid hb1
  clear hb1 HC
  go_wp2_with fail
  go_ret
  exact ⟨rfl, HB1.out⟩

/-- A deed that is none of the first kind. -/
theorem not_cat {o : OpT} (hk : knownB o = true) (h1 : o.1 ≠ 1) : ∃ T v, deedV o = .iface T v ∧ ∀ w : World, (Instr.typeAssert (.iface T v) 165 193 true).run Tryz.prog w = .ok (.tuple #[.agg #[.int .i64 0], .bool false]) w := by
  obtain ⟨k, n, t⟩ := o
  simp only [knownB, Bool.and_eq_true, decide_eq_true_eq] at hk h1
  have hk' : k = 2 ∨ k = 3 ∨ k = 4 ∨ k = 5 ∨ k = 6 ∨ k = 7 := by omega
  rcases hk' with rfl | rfl | rfl | rfl | rfl | rfl
  · exact ⟨_, _, rfl, fun w => ta_text_cat _ w⟩
  · exact ⟨_, _, rfl, fun w => ta_upper_cat _ w⟩
  · exact ⟨_, _, rfl, fun w => ta_sort_cat _ w⟩
  · exact ⟨_, _, rfl, fun w => ta_drop_cat _ w⟩
  · exact ⟨_, _, rfl, fun w => ta_count_cat _ w⟩
  · exact ⟨_, _, rfl, fun w => ta_fail_cat _ w⟩
theorem known_ok {ins : Int} {o : OpT} (h : opOk ins o = true) : knownB o = true := by
  rw [opOk_is, Bool.and_eq_true] at h; exact h.1
theorem DC_get {r : List OpT} {k : Nat} (hk : k < r.length) : (DC r)[k]'(by rw [DC_len]; exact hk) = deedV r[k] := by simp [DC]
theorem RowV.deeds {w : World} {v : Value} {r : List OpT} (h : RowV w v (DC r)) :
    ∃ a c, v = .slice a r.length c ∧ r.length ≤ c ∧ c ≤ maxLen ∧ ∀ k (hk : k < r.length), ∃ g o, a = some ⟨g, o, none⟩ ∧ g < w.heap.size ∧ w.cell? ⟨g, o + k, none⟩ = some (deedV r[k]) := by
  obtain ⟨a, c, hv, h1, h2, hat⟩ := h
  refine ⟨a, c, by rw [hv, DC_len], by rw [DC_len] at h1; exact h1, h2, fun k hk => ?_⟩
  obtain ⟨g, o, ha, hg, hc⟩ := hat k (by rw [DC_len]; exact hk)
  exact ⟨g, o, ha, hg, by rw [hc, DC_get hk]⟩
theorem cats_snoc {r : List OpT} {k : Nat} (hk : k < r.length) (h : r[k].1 = 1) : catsL (r.take (k + 1)) = catsL (r.take k) ++ [r[k].2.1] := by
  rw [cats_next hk, if_pos h]
theorem cats_same {r : List OpT} {k : Nat} (hk : k < r.length) (h : r[k].1 ≠ 1) : catsL (r.take (k + 1)) = catsL (r.take k) := by
  rw [cats_next hk, if_neg h, List.append_nil]
theorem none_ownI (w : World) (B e : Nat) : w.ownsRow B e 1 (.slice none 0 0) 0 [] := ⟨rfl, .inl ⟨rfl, rfl⟩⟩
theorem own_I {w : World} {B e : Nat} {v : Value} {l : List Int} (h : w.ownsRow B e 1 v l.length (I l)) : w.ownsRow B e 1 v (I l).length (I l) := by rw [I_len]; exact h
theorem own_I2 {w : World} {B e : Nat} {v : Value} {l : List Int} {n : Int} (h : w.ownsRow B e 1 v (I l ++ [Value.int .i64 n]).length (I l ++ [Value.int .i64 n])) : w.ownsRow B e 1 v (l ++ [n]).length (I (l ++ [n])) := by
  rw [← I_len, I_append]; exact h

end Go.Proofs.YtcfhfhpdnjaokaaGreatDoor

/- Walks: whether a number is in a list, whether numbers rise (as chapter 2 has them). -/
namespace Go.Proofs.YtcfhfhpdnjaokaaGreatDoor
open Go.RowKit Pth

theorem has_next {l : List Int} {n : Int} {k : Nat} (hk : k < l.length) (h : hasL l n = hasL (l.drop k) n) (hn : l[k] ≠ n) : hasL l n = hasL (l.drop (k + 1)) n := by
  rw [h, List.drop_eq_getElem_cons hk, hasL, hasL, Bool.eq_iff_iff, decide_eq_true_iff, decide_eq_true_iff, List.mem_cons]
  constructor
  · rintro (h | h)
    · exact absurd h.symm hn
    · exact h
  · exact .inr

set_option maxHeartbeats 1000000 in
theorem l1Has_any (l : List Int) (n : Int) (v : Value) (w : World) (hrow : RowV w v (I l)) :
    Calls Tryz.prog 113 #[v, .int .i64 n] w fun e w' => e = .returned (.bool (hasL l n)) ∧ w = w' := by
  obtain ⟨a, cap, rfl, hc1, hc2, hat⟩ := hrow.ints
  clear hrow
  unfold maxLen at hc2
  go_enter Tryz.func113, Tryz.ntmps113
  go_wp2_with fail
  go_loop [9] (fun i => ∃ k : Nat, k ≤ l.length ∧ i = .int .i64 k ∧ Hid (hasL l n = hasL (l.drop k) n)) (fun i => l.length - (intOf i).toNat)
  case atStart => exact ⟨0, Nat.zero_le _, rfl, rfl⟩
  case round =>
    obtain ⟨k, hk, rfl, HO⟩ := hrel
    by_cases hlt : k < l.length
    · obtain ⟨g, o, rfl, hg, hcell⟩ := hat k hlt
      clear hat
      by_cases hx : l[k] = n
      · have HR : Hid (hasL l n = true) := by rw [hasL, decide_eq_true_iff, ← hx]; exact List.getElem_mem hlt
        have hx1 : (l[k] == n) = true := by simp [hx]
        generalize l[k] = x at hcell hx hx1
        clear HO hx
        go_wp2_with fail
        go_ret
        exact ⟨ret_bool HR.out.symm, rfl⟩
      · have HR : Hid (hasL l n = hasL (l.drop (k + 1)) n) := has_next hlt HO.out hx
        have hx1 : (l[k] == n) = false := by simp [hx]
        generalize l[k] = x at hcell hx hx1
        clear HO hx
        go_wp2_with fail
        go_round
        case rel => exact ⟨k + 1, by omega, by go_num, HR⟩
        case measure => simp [intOf]; omega
    · have HR : Hid (hasL l n = false) := by rw [HO.out, List.drop_of_length_le (by omega)]; rfl
      clear HO hat
      go_wp2_with fail
      go_ret
      exact ⟨ret_bool HR.out.symm, rfl⟩


set_option maxHeartbeats 1000000 in
theorem l1Rising_any (l : List Int) (lo hi : Int) (v : Value) (w : World) (hrow : RowV w v (I l)) :
    Calls Tryz.prog 138 #[v, .int .i64 lo, .int .i64 hi] w fun e w' => e = .returned (.bool (riseB lo hi l)) ∧ w = w' := by
  obtain ⟨a, cap, rfl, hc1, hc2, hat⟩ := hrow.ints
  clear hrow
  unfold maxLen at hc2
  go_enter Tryz.func138, Tryz.ntmps138
  go_wp2_with fail
  go_loop [11] (fun i => ∃ k : Nat, k ≤ l.length ∧ i = .int .i64 k ∧ Hid (Rise (l.take k) ∧ Within lo hi (l.take k))) (fun i => l.length - (intOf i).toNat)
  case atStart => exact ⟨0, Nat.zero_le _, rfl, by simp [Rise, Hid, Within]⟩
  case round =>
    obtain ⟨k, hk, rfl, HO⟩ := hrel
    by_cases hlt : k < l.length
    · obtain ⟨g, o, rfl, hg, hcell⟩ := hat k hlt
      by_cases hx : lo ≤ l[k] ∧ l[k] ≤ hi
      · have hx1 : (decide (lo ≤ l[k]) && decide (l[k] ≤ hi)) = true := by simp [hx]
        by_cases h0 : 0 < k
        · obtain ⟨g', o', hA, _, hcell0⟩ := hat (k - 1) (by omega)
          injection hA with hA
          injection hA with hA1 hA2
          subst hA1 hA2
          by_cases hy : l[k - 1] < l[k]
          · have HR : Hid (Rise (l.take (k + 1)) ∧ Within lo hi (l.take (k + 1))) := rise_next hlt HO.out hx.1 hx.2 (fun _ => hy)
            generalize l[k] = x at hcell hx hx1 hy
            generalize l[k - 1] = y at hcell0 hy
            clear hat HO hx
            have hk0 : decide ((k : Int) > 0) = true := by simp; omega
            have hy1 : decide (y ≥ x) = false := by simp; omega
            go_wp2_with (go_at_call 136; refine (l1In_any _ _ _ _).mono ?_; rintro e w' ⟨rfl, rfl⟩)
            all_goals
              go_round
              case rel => exact ⟨k + 1, by omega, by go_num, HR⟩
              case measure => simp [intOf]; omega
          · have HR : Hid (riseB lo hi l = false) := rise_fall hlt h0 (by omega)
            generalize l[k] = x at hcell hx hx1 hy
            generalize l[k - 1] = y at hcell0 hy
            clear hat HO hx
            have hk0 : decide ((k : Int) > 0) = true := by simp; omega
            have hy1 : decide (y ≥ x) = true := by simp; omega
            go_wp2_with (go_at_call 136; refine (l1In_any _ _ _ _).mono ?_; rintro e w' ⟨rfl, rfl⟩)
            all_goals
              go_ret
              exact ⟨ret_bool HR.out.symm, rfl⟩
        · have HR : Hid (Rise (l.take (k + 1)) ∧ Within lo hi (l.take (k + 1))) := rise_next hlt HO.out hx.1 hx.2 (fun h => absurd h h0)
          generalize l[k] = x at hcell hx hx1
          clear hat HO hx
          have hk0 : decide ((k : Int) > 0) = false := by simp; omega
          go_wp2_with (go_at_call 136; refine (l1In_any _ _ _ _).mono ?_; rintro e w' ⟨rfl, rfl⟩)
          all_goals
            go_round
            case rel => exact ⟨k + 1, by omega, by go_num, HR⟩
            case measure => simp [intOf]; omega
      · have HR : Hid (riseB lo hi l = false) := rise_out hlt (by omega)
        have hx1 : (decide (lo ≤ l[k]) && decide (l[k] ≤ hi)) = false := by
          rw [Bool.eq_false_iff]; intro h; rw [Bool.and_eq_true, decide_eq_true_iff, decide_eq_true_iff] at h; exact hx h
        generalize l[k] = x at hcell hx hx1
        clear hat HO hx
        go_wp2_with (go_at_call 136; refine (l1In_any _ _ _ _).mono ?_; rintro e w' ⟨rfl, rfl⟩)
        all_goals
          go_ret
          exact ⟨ret_bool HR.out.symm, rfl⟩
    · have HR : Hid (riseB lo hi l = true) := by have := HO.out; rw [List.take_of_length_le (by omega)] at this; exact riseB_iff.2 this
      clear HO hat
      go_wp2_with fail
      go_ret
      exact ⟨ret_bool HR.out.symm, rfl⟩

/-- All between two. -/
def allB (lo hi : Int) (l : List Int) : Bool := decide (∀ x ∈ l, lo ≤ x ∧ x ≤ hi)
set_option maxHeartbeats 1000000 in
theorem l1All_any (l : List Int) (lo hi : Int) (v : Value) (w : World) (hrow : RowV w v (I l)) :
    Calls Tryz.prog 137 #[v, .int .i64 lo, .int .i64 hi] w fun e w' => e = .returned (.bool (allB lo hi l)) ∧ w = w' := by
  obtain ⟨a, cap, rfl, hc1, hc2, hat⟩ := hrow.ints
  clear hrow
  unfold maxLen at hc2
  go_enter Tryz.func137, Tryz.ntmps137
  go_wp2_with fail
  go_loop [11] (fun i => ∃ k : Nat, k ≤ l.length ∧ i = .int .i64 k ∧ Hid (∀ x ∈ l.take k, lo ≤ x ∧ x ≤ hi)) (fun i => l.length - (intOf i).toNat)
  case atStart => exact ⟨0, Nat.zero_le _, rfl, by simp [Hid]⟩
  case round =>
    obtain ⟨k, hk, rfl, HO⟩ := hrel
    by_cases hlt : k < l.length
    · obtain ⟨g, o, rfl, hg, hcell⟩ := hat k hlt
      by_cases hx : lo ≤ l[k] ∧ l[k] ≤ hi
      · have hx1 : (decide (lo ≤ l[k]) && decide (l[k] ≤ hi)) = true := by simp [hx]
        have HR : Hid (∀ x ∈ l.take (k + 1), lo ≤ x ∧ x ≤ hi) := by
          intro x hxm
          rw [List.take_succ_eq_append_getElem hlt, List.mem_append, List.mem_singleton] at hxm
          rcases hxm with h | h
          · exact HO.out x h
          · rw [h]; exact hx
        generalize l[k] = x at hcell hx hx1
        clear hat HO hx
        go_wp2_with (go_at_call 136; refine (l1In_any _ _ _ _).mono ?_; rintro e w' ⟨rfl, rfl⟩)
        all_goals
          go_round
          case rel => exact ⟨k + 1, by omega, by go_num, HR⟩
          case measure => simp [intOf]; omega
      · have HR : Hid (allB lo hi l = false) := by
          rw [allB, decide_eq_false_iff_not]; exact fun h => hx (h _ (List.getElem_mem hlt))
        have hx1 : (decide (lo ≤ l[k]) && decide (l[k] ≤ hi)) = false := by
          rw [Bool.eq_false_iff]; intro h; rw [Bool.and_eq_true, decide_eq_true_iff, decide_eq_true_iff] at h; exact hx h
        generalize l[k] = x at hcell hx hx1
        clear hat HO hx
        go_wp2_with (go_at_call 136; refine (l1In_any _ _ _ _).mono ?_; rintro e w' ⟨rfl, rfl⟩)
        all_goals
          go_ret
          exact ⟨ret_bool HR.out.symm, rfl⟩
    · have HR : Hid (allB lo hi l = true) := by have := HO.out; rw [List.take_of_length_le (by omega)] at this; rw [allB, decide_eq_true_iff]; exact this
      clear HO hat
      go_wp2_with fail
      go_ret
      exact ⟨ret_bool HR.out.symm, rfl⟩

end Go.Proofs.YtcfhfhpdnjaokaaGreatDoor

/- Walks: the place of a number in a list; whether a graph is good, as the reference has it. -/
namespace Go.Proofs.YtcfhfhpdnjaokaaGreatDoor
open Go.RowKit Pth

theorem not_take {l : List Int} {n : Int} {k : Nat} (hk : k < l.length) (h : n ∉ l.take k) (hx : ¬ l[k] = n) : n ∉ l.take (k + 1) := by
  rw [List.take_succ_eq_append_getElem hk, List.mem_append, List.mem_singleton]
  rintro (h' | h')
  · exact h h'
  · exact hx h'.symm
theorem ret_int {a b : Int} (h : a = b) : Ending.returned (.int .i64 a) = .returned (.int .i64 b) := by rw [h]

set_option maxHeartbeats 1000000 in
theorem l5Place_any (l : List Int) (n : Int) (v : Value) (w : World) (hrow : RowV w v (I l)) :
    Calls Tryz.prog 139 #[v, .int .i64 n] w fun e w' => e = .returned (.int .i64 (placeI l n)) ∧ w = w' := by
  obtain ⟨a, cap, rfl, hc1, hc2, hat⟩ := hrow.ints
  clear hrow
  unfold maxLen at hc2
  go_enter Tryz.func139, Tryz.ntmps139
  go_wp2_with fail
  go_loop [9] (fun i => ∃ k : Nat, k ≤ l.length ∧ i = .int .i64 k ∧ Hid (n ∉ l.take k)) (fun i => l.length - (intOf i).toNat)
  case atStart => exact ⟨0, Nat.zero_le _, rfl, by simp [Hid]⟩
  case round =>
    obtain ⟨k, hk, rfl, HO⟩ := hrel
    by_cases hlt : k < l.length
    · obtain ⟨g, o, rfl, hg, hcell⟩ := hat k hlt
      clear hat
      by_cases hx : l[k] = n
      · have HR : Hid (placeI l n = k) := place_at hlt HO.out hx
        have hx1 : (l[k] == n) = true := by simp [hx]
        generalize l[k] = x at hcell hx hx1
        clear HO hx
        go_wp2_with fail
        go_ret
        exact ⟨ret_int HR.out.symm, rfl⟩
      · have HR : Hid (n ∉ l.take (k + 1)) := not_take hlt HO.out hx
        have hx1 : (l[k] == n) = false := by simp [hx]
        generalize l[k] = x at hcell hx hx1
        clear HO hx
        go_wp2_with fail
        go_round
        case rel => exact ⟨k + 1, by omega, by go_num, HR⟩
        case measure => simp [intOf]; omega
    · have HR : Hid (placeI l n = -1) := by have := HO.out; rw [List.take_of_length_le (by omega)] at this; exact place_none this
      clear HO hat
      go_wp2_with fail
      go_ret
      exact ⟨ret_int HR.out.symm, rfl⟩

/-- One task is as it should be. -/
def TaskOk (ls : List (List Int)) (l : List Int) (k : Nat) (hk : k < ls.length) : Prop := (Rise ls[k] ∧ Within 0 ((ls.length : Int) - 1) ls[k]) ∧ (k : Int) ∈ l ∧ ∀ x ∈ ls[k], placeI l x < placeI l k

set_option maxRecDepth 20000 in
set_option maxHeartbeats 4000000 in
theorem specGood_any (ls : List (List Int)) (l : List Int) (v : Value) (w : World) (hst : GraphV w v ls l) :
    Calls Tryz.prog 77 #[v] w fun e w' => e = .returned (.bool (goodG ls l)) ∧ Below w.heap.size w w' := by
  obtain ⟨nv, ov, rfl, h1, h2⟩ := hst
  have H1 := Lib.hid h1
  have H2 := Lib.hid h2
  obtain ⟨an, cn, rfl, hn1, hn2, hat⟩ := h1.lists
  obtain ⟨ao, co, rfl, ho1, ho2, _⟩ := h2.ints
  clear h1 h2
  unfold maxLen at hn2 ho2
  have nog : ∀ {P : Prop}, (GoodG ls l → P) → ¬ P → Hid (goodG ls l = false) := fun h1 h2 => goodG_no (fun h => h2 (h1 h))
  obtain ⟨wa, hwa⟩ : ∃ wa, wa = w.alloc (.cells #[.slice an ls.length cn, .slice ao l.length co] 26) := ⟨_, rfl⟩
  have c0 : wa.cell? ⟨w.heap.size, 0, none⟩ = some (.slice an ls.length cn) := by rw [hwa]; simp
  have c1 : wa.cell? ⟨w.heap.size, 1, none⟩ = some (.slice ao l.length co) := by rw [hwa]; simp
  have HA : Hid (Below w.heap.size w wa) := by rw [hwa]; exact (Below.refl w.heap.size w).alloc (Nat.le_refl _) _
  have HWA := Lib.hid hwa
  clear hwa
  have CI := l1In_any (ls.length : Int) 1 10 wa
  have CA := l1All_any l 0 ((ls.length : Int) - 1) _ wa (H2.out.below HA.out)
  by_cases h1 : 1 ≤ ls.length ∧ ls.length ≤ 10
  · have e1 : (decide ((1 : Int) ≤ (ls.length : Int)) && decide ((ls.length : Int) ≤ 10)) = true := by simp; omega
    rw [e1] at CI
    have HCI := Lib.hid CI
    clear CI e1
    by_cases h2 : l.length = ls.length
    · have e2 : ((l.length : Int) != (ls.length : Int)) = false := by simp [h2]
      have HL := Lib.hid h2
      by_cases h3 : ∀ x ∈ l, 0 ≤ x ∧ x ≤ (ls.length : Int) - 1
      · have e3 : allB 0 ((ls.length : Int) - 1) l = true := by rw [allB, decide_eq_true_iff]; exact h3
        rw [e3] at CA
        have HCA := Lib.hid CA
        have H3 := Lib.hid h3
        clear CA e3 h3 h2
        obtain ⟨h1a, h1b⟩ := h1
        go_enter Tryz.func77, Tryz.ntmps77
        go_wp2_with fail
        rw [← HWA.out]
        refine HCI.out.mono ?_
        rintro e w1 ⟨rfl, rfl⟩
        go_wp2_with fail
        refine HCA.out.mono ?_
        rintro e w1 ⟨rfl, rfl⟩
        go_wp2_with fail
        clear HCI HCA HWA e2
        have hsz : w.heap.size < wa.heap.size := by exact World.block_lt_of_cell? _ _ c0
        go_loopw [32] (fun i wr => ∃ k : Nat, k ≤ ls.length ∧ i = .int .i64 k ∧ Hid (∀ j (hj : j < ls.length), j < k → TaskOk ls l j hj) ∧ Below wa.heap.size wa wr) (fun i _ => ls.length - (intOf i).toNat)
        case atStart => exact ⟨0, Nat.zero_le _, rfl, fun j hj h => by omega, Below.refl _ _⟩
        case round =>
          obtain ⟨k, hk, rfl, HO, hb⟩ := hrel
          have HB := Lib.hid hb
          have HBW := Lib.hid (bth HA.out hb (Nat.le_refl _))
          have d0 := (hb.cell (p := ⟨w.heap.size, 0, none⟩) hsz).trans c0
          have d1 := (hb.cell (p := ⟨w.heap.size, 1, none⟩) hsz).trans c1
          have HC0 := Lib.hid c0
          have HC1 := Lib.hid c1
          clear hb c0 c1
          by_cases hlt : k < ls.length
          · obtain ⟨g, o, a2, c2, rfl, hg, hcell0, hrk⟩ := hat k hlt
            have hcell : wr.cell? ⟨g, o + k, none⟩ = some (.slice a2 ls[k].length c2) := by rw [HBW.out.cell (p := ⟨g, o + k, none⟩) hg]; exact hcell0
            have CR := l1Rising_any ls[k] 0 ((ls.length : Int) - 1) _ wr (hrk.below HBW.out)
            have CP := l5Place_any l (k : Int) _ wr (H2.out.below HBW.out)
            by_cases hr : Rise ls[k] ∧ Within 0 ((ls.length : Int) - 1) ls[k]
            · rw [riseB_iff.2 hr] at CR
              have HCR := Lib.hid CR
              clear CR
              by_cases hm : (k : Int) ∈ l
              · have hp0 : ¬ (placeI l k < 0) := by have := place_nonneg.2 hm; omega
                have HCP := Lib.hid CP
                have HRK := Lib.hid hrk
                have HM := Lib.hid hm
                have HRR := Lib.hid hr
                have hkl : ls[k].length ≤ c2 ∧ c2 ≤ maxLen := by obtain ⟨a3, c3, he, h1, h2, _⟩ := hrk.ints; injection he with _ _ he; omega
                obtain ⟨hkl1, hkl2⟩ := hkl
                obtain ⟨a3, c3, he3, _, _, hatk⟩ := hrk.ints
                injection he3 with he3 _ he4
                subst he3 he4
                unfold maxLen at hkl2
                clear CP hcell0 hm hr hat hrk
                generalize hpk : placeI l k = pk at hp0 HCP
                have HPK := Lib.hid hpk
                clear hpk
                go_wp2_with fail
                refine HCR.out.mono ?_
                rintro e w' ⟨rfl, rfl⟩
                go_wp2_with fail
                refine HCP.out.mono ?_
                rintro e w' ⟨rfl, rfl⟩
                go_wp2_with fail
                clear HCR HCP d0 d1 hcell
                go_loopw [51] (fun i wq => ∃ j : Nat, j ≤ ls[k].length ∧ i = .int .i64 j ∧ Hid (∀ x ∈ ls[k].take j, placeI l x < pk) ∧ Below wa.heap.size wa wq) (fun i _ => ls[k].length - (intOf i).toNat)
                case atStart => exact ⟨0, Nat.zero_le _, rfl, by simp [Hid], HB.out⟩
                case round =>
                  clear HB HBW
                  obtain ⟨j, hj, rfl, HJ, hb⟩ := hrel
                  have HB := Lib.hid hb
                  have HBW := Lib.hid (bth HA.out hb (Nat.le_refl _))
                  have d1 := (hb.cell (p := ⟨w.heap.size, 1, none⟩) hsz).trans HC1.out
                  have HP := Lib.hid (fun (q : Nat) (x : Int) => (l5Place_any l x _ (wr.drewN q) (H2.out.below (below_drewN HBW.out q))).mono (fun e w' ⟨h1, h2⟩ => And.intro h1 h2.symm))
                  clear hb
                  by_cases hjt : j < ls[k].length
                  · obtain ⟨g2, o2, rfl, hg2, hcell0⟩ := hatk j hjt
                    have hcell : wr.cell? ⟨g2, o2 + j, none⟩ = some (.int .i64 ls[k][j]) := by rw [HBW.out.cell (p := ⟨g2, o2 + j, none⟩) hg2]; exact hcell0
                    clear hcell0 hatk
                    by_cases hx : placeI l ls[k][j] < pk
                    · have hx1 : decide (placeI l ls[k][j] ≥ pk) = false := by simp; omega
                      have HJ2 : Hid (∀ x ∈ ls[k].take (j + 1), placeI l x < pk) := by
                        intro x hxm
                        rw [List.take_succ_eq_append_getElem hjt, List.mem_append, List.mem_singleton] at hxm
                        rcases hxm with h | h
                        · exact HJ.out x h
                        · rw [h]; exact hx
                      clear HJ hx
                      rw [← HPK.out] at hx1
                      generalize ls[k][j] = x at hcell hx1
                      go_wp2_with fail
                      go_quiet ((go_at_call 139; exact Calls.quiet_of_same (HP.out _ _)))
                      go_wp2_with fail
                      go_roundw
                      case rel => exact ⟨j + 1, by omega, by go_num, HJ2, below_drewN HB.out _⟩
                      case measure => simp [intOf]; omega
                    · have HR := nog (fun h => (h.each k hlt).2.2 _ (List.getElem_mem hjt)) (by rw [HPK.out]; exact hx)
                      have hx1 : decide (placeI l ls[k][j] ≥ pk) = true := by simp; omega
                      clear HJ hx
                      rw [← HPK.out] at hx1
                      generalize ls[k][j] = x at hcell hx1
                      go_wp2_with fail
                      go_quiet ((go_at_call 139; exact Calls.quiet_of_same (HP.out _ _)))
                      go_wp2_with fail
                      go_ret
                      exact ⟨ret_bool HR.out.symm, below_drewN HBW.out _⟩
                  · have HT : Hid (∀ i (hi : i < ls.length), i < k + 1 → TaskOk ls l i hi) := by
                      intro i hi hik
                      rcases Nat.lt_or_ge i k with h | h
                      · exact HO.out i hi h
                      · obtain rfl : i = k := by omega
                        refine ⟨HRR.out, HM.out, fun x hx => ?_⟩
                        rw [HPK.out]
                        have := HJ.out
                        rw [List.take_of_length_le (by omega)] at this
                        exact this x hx
                    clear HJ HO HP hatk
                    go_wp2_with fail
                    go_roundw
                    case rel => exact ⟨k + 1, by omega, by go_num, HT, HB.out⟩
                    case measure => simp [intOf]; omega
              · have hp0 : placeI l k < 0 := by rw [place_none hm]; omega
                have HCP := Lib.hid CP
                have HR := nog (fun h => (h.each k hlt).2.1) hm
                clear CP hcell0 hm hr hat nog hrk
                generalize placeI l k = pk at hp0 HCP
                go_wp2_with fail
                refine HCR.out.mono ?_
                rintro e w' ⟨rfl, rfl⟩
                go_wp2_with fail
                refine HCP.out.mono ?_
                rintro e w' ⟨rfl, rfl⟩
                go_wp2_with fail
                all_goals
                  go_ret
                  exact ⟨ret_bool HR.out.symm, HBW.out⟩
            · rw [riseB_false hr] at CR
              have HCR := Lib.hid CR
              have HR := nog (fun h => (h.each k hlt).1) hr
              clear CR CP hcell0 hr hat nog hrk
              go_wp2_with fail
              refine HCR.out.mono ?_
              rintro e w' ⟨rfl, rfl⟩
              go_wp2_with fail
              all_goals
                go_ret
                exact ⟨ret_bool HR.out.symm, HBW.out⟩
          · have HR : Hid (goodG ls l = true) := goodG_iff.2 ⟨h1a, h1b, HL.out, H3.out, fun j hj => HO.out j hj (by omega)⟩
            clear HO hat nog
            go_wp2_with fail
            go_ret
            exact ⟨ret_bool HR.out.symm, HBW.out⟩
      · have e3 : allB 0 ((ls.length : Int) - 1) l = false := by rw [allB, decide_eq_false_iff_not]; exact h3
        have HR := nog (fun h => h.tasks) h3
        rw [e3] at CA
        have HCA := Lib.hid CA
        clear CA e3 h3 h2 nog hat
        obtain ⟨h1a, h1b⟩ := h1
        go_enter Tryz.func77, Tryz.ntmps77
        go_wp2_with fail
        rw [← HWA.out]
        refine HCI.out.mono ?_
        rintro e w1 ⟨rfl, rfl⟩
        go_wp2_with fail
        refine HCA.out.mono ?_
        rintro e w1 ⟨rfl, rfl⟩
        go_wp2_with fail
        go_ret
        exact ⟨ret_bool HR.out.symm, HA.out⟩
    · have e2 : ((l.length : Int) != (ls.length : Int)) = true := by simp; omega
      have HR := nog (fun h => h.same) h2
      clear h2 nog CA hat
      obtain ⟨h1a, h1b⟩ := h1
      go_enter Tryz.func77, Tryz.ntmps77
      go_wp2_with fail
      rw [← HWA.out]
      refine HCI.out.mono ?_
      rintro e w1 ⟨rfl, rfl⟩
      go_wp2_with fail
      go_ret
      exact ⟨ret_bool HR.out.symm, HA.out⟩
  · have e1 : (decide ((1 : Int) ≤ (ls.length : Int)) && decide ((ls.length : Int) ≤ 10)) = false := by
      rw [Bool.eq_false_iff]; intro h; rw [Bool.and_eq_true, decide_eq_true_iff, decide_eq_true_iff] at h; omega
    have HR := nog (fun h => And.intro h.low h.high) h1
    rw [e1] at CI
    have HCI := Lib.hid CI
    clear CI e1 h1 nog CA hat
    go_enter Tryz.func77, Tryz.ntmps77
    go_wp2_with fail
    rw [← HWA.out]
    refine HCI.out.mono ?_
    rintro e w1 ⟨rfl, rfl⟩
    go_wp2_with fail
    go_ret
    exact ⟨ret_bool HR.out.symm, HA.out⟩
end Go.Proofs.YtcfhfhpdnjaokaaGreatDoor
