/- Walks: the reference's tests of a byte, a pattern, a list of numbers. -/
import Derived.Test.YtcplooeohdhlkaaPr
namespace Go.Proofs.Ytcplooeohdhlkaa
open Go.RowKit Pth

set_option maxHeartbeats 400000 in
theorem l1In_any (n lo hi : Int) (w : World) :
    Calls Try.prog 75 #[.int .i64 n, .int .i64 lo, .int .i64 hi] w fun e w' => e = .returned (.bool (decide (lo ≤ n) && decide (n ≤ hi))) ∧ w = w' := by
  go_enter Try.func75, Try.ntmps75
  go_wp2
  all_goals
    go_ret
    exact ⟨ret_bool (by rw [Bool.eq_iff_iff]; simp <;> omega), rfl⟩

set_option maxHeartbeats 1000000 in
theorem l1Path_any (s : ByteArray) (w : World) (hs : s.size ≤ maxLen) :
    Calls Try.prog 52 #[.string s] w fun e w' => e = .returned (.bool (pathL s.data.toList)) ∧ w = w' := by
  unfold maxLen at hs
  go_enter Try.func52, Try.ntmps52
  go_wp2
  go_loop [3] (fun i => ∃ k : Nat, k ≤ s.size ∧ i = .int .i64 k ∧ Hid (okL (s.data.toList.take k) = true)) (fun i => s.size - (intOf i).toNat)
  case atStart => exact ⟨0, Nat.zero_le _, rfl, rfl⟩
  case round =>
    obtain ⟨k, hk, rfl, HO⟩ := hrel
    by_cases hlt : k < s.size
    · go_wp2
      all_goals first
        | (go_round
           case rel => exact ⟨k + 1, by omega, by go_num, okL_next hlt HO.out (by clear HO; go_light; simp_all [pb] <;> omega)⟩
           case measure => simp [intOf]; omega)
        | (go_ret
           exact ⟨ret_bool (pathL_false k hlt (by clear HO; go_light; simp_all [pb] <;> omega)).symm, rfl⟩)
    · go_wp2
      go_ret
      exact ⟨ret_bool (by rw [pathL_end (k := k) (by omega) HO.out]; go_num), rfl⟩

theorem path_one (c : UInt8) : pathL [c] = pb (c.toNat : Int) := by simp [pathL, okL]

set_option maxHeartbeats 1000000 in
theorem l2Byte_any (c : UInt8) (w : World) :
    Calls Try.prog 67 #[.int .u8 (c.toNat : Int)] w fun e w' => e = .returned (.bool (pb (c.toNat : Int))) ∧ Below w.heap.size w w' := by
  have hc := run_one_byte c w
  have HP := Lib.hid (path_one c)
  go_enter Try.func67, Try.ntmps67
  go_wp2_with fail
  refine (l1Path_any ⟨#[c]⟩ _ (by unfold maxLen; show 1 ≤ _; omega)).mono ?_
  rintro e w1 ⟨rfl, rfl⟩
  go_wp2_with fail
  go_ret
  exact ⟨ret_bool HP.out, (Below.refl _ _).alloc (Nat.le_refl _) _⟩

end Go.Proofs.Ytcplooeohdhlkaa
