/- Walks: the laws' helpers on one file. -/
import Derived.Test.YtoahfhidekmodaaDoorGr
import Derived.Test.YtoahfhidekmodaaDoorQs
namespace Go.Proofs.YtoahfhidekmodaaDoor
open Go.RowKit Pth

def fileV (f : FileT) : Value := .agg #[.string ⟨f.1.toArray⟩, .string ⟨f.2.toArray⟩]

set_option maxHeartbeats 1000000 in
theorem szFile_any (x y : List UInt8) (left : Nat) (w : World) (hx : x.length ≤ maxLen) (hy : y.length ≤ maxLen) (hl : left ≤ 2000000) :
    Calls Tryd.prog 21 #[fileV (x, y), .int .i64 (left : Int)] w fun e w' => ∃ r : Int, e = .returned (.int .i64 r) ∧ r ≤ left ∧ (0 ≤ r → x.length ≤ left ∧ y.length ≤ left) ∧ Below w.heap.size w w' := by
  unfold maxLen at hx hy
  unfold fileV
  have HB := Lib.hid ((Below.refl w.heap.size w).alloc (Nat.le_refl _) (.cells #[.string ⟨x.toArray⟩, .string ⟨y.toArray⟩] 44))
  by_cases h1 : x.length ≤ left
  · have d1 : decide ((left : Int) - (x.length : Int) < 0) = false := by simp; omega
    by_cases h2 : (y.length : Int) ≤ (left : Int) - (x.length : Int)
    · have d2 : decide ((left : Int) - (x.length : Int) - (y.length : Int) < 0) = false := by simp; omega
      go_enter Tryd.func21, Tryd.ntmps21
      go_wp2_with fail
      go_ret
      exact ⟨_, rfl, by omega, fun _ => by omega, HB.out⟩
    · have d2 : decide ((left : Int) - (x.length : Int) - (y.length : Int) < 0) = true := by simp; omega
      go_enter Tryd.func21, Tryd.ntmps21
      go_wp2_with fail
      go_ret
      exact ⟨-1, rfl, by omega, fun h => by omega, HB.out⟩
  · have d1 : decide ((left : Int) - (x.length : Int) < 0) = true := by simp; omega
    go_enter Tryd.func21, Tryd.ntmps21
    go_wp2_with fail
    go_ret
    exact ⟨-1, rfl, by omega, fun h => by omega, HB.out⟩

/-- Results that lie in a block. -/
theorem results_cell {fn : Func} {p : Tmp} {ty : TypeId} (h : fn.results = #[.cell p ty]) {tmps : Array Value} {w : World} {ad : Addr} {v : Value} (hp : tmps.getD p undef = .pointer (some ad)) (hl : (loadVar ty ad).run Tryd.prog w = .ok v w) :
    (results fn tmps).run Tryd.prog w = .ok v w := by
  have hp' : tmps[p]?.getD undef = .pointer (some ad) := by simpa using hp
  simp only [results, h]
  simp [Sem.run_bind, Result.andThen, hp', asAddr, hl]
theorem results_cell2 {fn : Func} {p u : Tmp} {ty : TypeId} (h : fn.results = #[.cell p ty, .tmp u]) {tmps : Array Value} {w : World} {ad : Addr} {v : Value} (hp : tmps.getD p undef = .pointer (some ad)) (hl : (loadVar ty ad).run Tryd.prog w = .ok v w) :
    (results fn tmps).run Tryd.prog w = .ok (.tuple #[v, tmps.getD u undef]) w := by
  have hp' : tmps[p]?.getD undef = .pointer (some ad) := by simpa using hp
  simp only [results, h]
  simp [Sem.run_bind, Result.andThen, hp', asAddr, hl]
theorem results_cell3 {fn : Func} {p u t : Tmp} {ty : TypeId} (h : fn.results = #[.cell p ty, .tmp u, .tmp t]) {tmps : Array Value} {w : World} {ad : Addr} {v : Value} (hp : tmps.getD p undef = .pointer (some ad)) (hl : (loadVar ty ad).run Tryd.prog w = .ok v w) :
    (results fn tmps).run Tryd.prog w = .ok (.tuple #[v, tmps.getD u undef, tmps.getD t undef]) w := by
  have hp' : tmps[p]?.getD undef = .pointer (some ad) := by simpa using hp
  simp only [results, h]
  simp [Sem.run_bind, Result.andThen, hp', asAddr, hl]
theorem load_file {w : World} {b : Nat} {x y : Value} (h0 : w.cell? ⟨b, 0, none⟩ = some x) (h1 : w.cell? ⟨b, 1, none⟩ = some y) : (loadVar 45 ⟨b, 0, none⟩).run Tryd.prog w = .ok (.agg #[x, y]) w := by
  go_simp
theorem load_store {w : World} {b : Nat} {x y z : Value} (h0 : w.cell? ⟨b, 0, none⟩ = some x) (h1 : w.cell? ⟨b, 1, none⟩ = some y) (h2 : w.cell? ⟨b, 2, none⟩ = some z) : (loadVar 35 ⟨b, 0, none⟩).run Tryd.prog w = .ok (.agg #[x, y, z]) w := by
  go_simp

set_option maxHeartbeats 1000000 in
theorem toFile_any (x y : List UInt8) (w : World) :
    Calls Tryd.prog 23 #[fileV (x, y)] w fun e w' => e = .returned (fileV (x, y)) ∧ Below w.heap.size w w' := by
  unfold fileV
  go_enter Tryd.func23, Tryd.ntmps23
  go_wp2_with fail
  refine bodyPost_ret (results_cell rfl rfl (load_file (x := .string ⟨x.toArray⟩) (y := .string ⟨y.toArray⟩) (by go_simp) (by go_simp))) rfl ?_
  exact ⟨rfl, (((Below.refl w.heap.size w).alloc (Nat.le_refl _) _).alloc (by simp) _).alloc (by simp; omega) _⟩

theorem ret_dec {p : Prop} [Decidable p] {b : Bool} (h : decide p = b) : Ending.returned (.bool b) = Ending.returned (.bool (decide p)) := by rw [h]

set_option maxHeartbeats 1000000 in
theorem eqFile_any (x y x' y' : List UInt8) (w : World) :
    Calls Tryd.prog 26 #[fileV (x, y), fileV (x', y')] w fun e w' => e = .returned (.bool (decide ((x, y) = (x', y')))) ∧ Below w.heap.size w w' := by
  unfold fileV
  have HB := Lib.hid (((Below.refl w.heap.size w).alloc (Nat.le_refl _) (.cells #[.string ⟨x.toArray⟩, .string ⟨y.toArray⟩] 45)).alloc (by simp) (.cells #[.string ⟨x'.toArray⟩, .string ⟨y'.toArray⟩] 45))
  by_cases h1 : x = x'
  · have d1 : (!(x == x')) = false := by simp [h1]
    by_cases h2 : y = y'
    · have d2 : (!(y == y')) = false := by simp [h2]
      have HT : Hid (decide ((x, y) = (x', y')) = true) := decide_eq_true (by rw [h1, h2])
      clear h1 h2
      go_enter Tryd.func26, Tryd.ntmps26
      go_wp2_with fail
      go_ret
      exact ⟨ret_dec HT.out, HB.out⟩
    · have d2 : (!(y == y')) = true := by simp [h2]
      have HT : Hid (decide ((x, y) = (x', y')) = false) := decide_eq_false (fun h => h2 (Prod.mk.inj h).2)
      clear h1 h2
      go_enter Tryd.func26, Tryd.ntmps26
      go_wp2_with fail
      go_ret
      exact ⟨ret_dec HT.out, HB.out⟩
  · have d1 : (!(x == x')) = true := by simp [h1]
    have HT : Hid (decide ((x, y) = (x', y')) = false) := decide_eq_false (fun h => h1 (Prod.mk.inj h).1)
    clear h1
    go_enter Tryd.func26, Tryd.ntmps26
    go_wp2_with fail
    go_ret
    exact ⟨ret_dec HT.out, HB.out⟩

end Go.Proofs.YtoahfhidekmodaaDoor
