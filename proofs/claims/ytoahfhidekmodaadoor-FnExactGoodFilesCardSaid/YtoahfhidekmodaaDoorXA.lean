/- Walks: the tests on a path's bytes, both programs'. -/
import Derived.Test.YtoahfhidekmodaaDoorRows
import Derived.Test.YtoahfhidekmodaaDoorMath
import Derived.WalkKit
import Derived.WalkSpells
import Derived.WalkLawsBesides
import Derived.Deep.Light
namespace Go.Proofs.YtoahfhidekmodaaDoor.D1
open Go.RowKit Pth

theorem ret_bool {a b : Bool} (h : a = b) : Ending.returned (.bool a) = .returned (.bool b) := by rw [h]

set_option maxHeartbeats 400000 in
theorem isPathRune_any (c : Int) (w : World) :
    Calls Tryd.prog 74 #[.int .i32 c] w fun e w' => e = .returned (.bool (pb c)) ∧ w = w' := by
  go_enter Tryd.func74, Tryd.ntmps74
  go_wp2
  all_goals
    go_ret
    exact ⟨ret_bool (by rw [Bool.eq_iff_iff]; simp [pb] <;> omega), rfl⟩

set_option maxHeartbeats 400000 in
theorem l1Rooted_any (s : ByteArray) (w : World) (hs : s.size ≤ maxLen) :
    Calls Tryd.prog 46 #[.string s] w fun e w' => e = .returned (.bool (rootedL s.data.toList)) ∧ w = w' := by
  unfold maxLen at hs
  by_cases h0 : 0 < s.size
  · have hr := rooted_pos h0
    have HR : Hid (rootedL s.data.toList = ((s[0].toNat : Int) == 47)) := hr
    clear hr
    go_enter Tryd.func46, Tryd.ntmps46
    go_wp2
    all_goals
      go_ret
      exact ⟨ret_bool (by rw [HR.out]), rfl⟩
  · have HR : Hid (rootedL s.data.toList = false) := rooted_nil (by omega)
    go_enter Tryd.func46, Tryd.ntmps46
    go_wp2
    all_goals
      go_ret
      exact ⟨ret_bool (by rw [HR.out]), rfl⟩

set_option maxHeartbeats 1000000 in
theorem l1Path_any (s : ByteArray) (w : World) (hs : s.size ≤ maxLen) :
    Calls Tryd.prog 36 #[.string s] w fun e w' => e = .returned (.bool (pathL s.data.toList)) ∧ w = w' := by
  unfold maxLen at hs
  go_enter Tryd.func36, Tryd.ntmps36
  go_wp2
  go_loop [3] (fun i => ∃ k : Nat, k ≤ s.size ∧ i = .int .i64 k ∧ Hid (okL (s.data.toList.take k) = true)) (fun i => s.size - (intOf i).toNat)
  case atStart => exact ⟨0, Nat.zero_le _, rfl, rfl⟩
  case round =>
    obtain ⟨k, hk, rfl, HO⟩ := hrel
    by_cases hlt : k < s.size
    · go_wp2
      all_goals first
        | (go_round
           case rel => exact ⟨k + 1, by omega, by go_num, okL_next hlt HO.out (by clear HO; go_light; simp_all [pb] <;> omega)⟩
           case measure => simp [intOf]; omega)
        | (go_ret
           exact ⟨ret_bool (pathL_false k hlt (by clear HO; go_light; simp_all [pb] <;> omega)).symm, rfl⟩)
    · go_wp2
      go_ret
      exact ⟨ret_bool (by rw [pathL_end (k := k) (by omega) HO.out]; go_num), rfl⟩

end Go.Proofs.YtoahfhidekmodaaDoor.D1
