/- Walks: the reference's rising lists, stems and patterns. -/
import Derived.Test.YtcplooeohdhlkaaPb
namespace Go.Proofs.Ytcplooeohdhlkaa
open Go.RowKit Pth

set_option maxHeartbeats 1000000 in
theorem l1Rising_any (l : List Int) (lo hi : Int) (v : Value) (w : World) (hrow : RowV w v (I l)) :
    Calls Try.prog 66 #[v, .int .i64 lo, .int .i64 hi] w fun e w' => e = .returned (.bool (riseB lo hi l)) ∧ w = w' := by
  obtain ⟨a, cap, rfl, hc1, hc2, hat⟩ := hrow.ints
  clear hrow
  unfold maxLen at hc2
  go_enter Try.func66, Try.ntmps66
  go_wp2_with fail
  go_loop [11] (fun i => ∃ k : Nat, k ≤ l.length ∧ i = .int .i64 k ∧ Hid (Rise (l.take k) ∧ Within lo hi (l.take k))) (fun i => l.length - (intOf i).toNat)
  case atStart => exact ⟨0, Nat.zero_le _, rfl, by simp [Rise, Hid, Within]⟩
  case round =>
    obtain ⟨k, hk, rfl, HO⟩ := hrel
    by_cases hlt : k < l.length
    · obtain ⟨g, o, rfl, hg, hcell⟩ := hat k hlt
      by_cases hx : lo ≤ l[k] ∧ l[k] ≤ hi
      · have hx1 : (decide (lo ≤ l[k]) && decide (l[k] ≤ hi)) = true := by simp [hx]
        by_cases h0 : 0 < k
        · obtain ⟨g', o', hA, _, hcell0⟩ := hat (k - 1) (by omega)
          injection hA with hA
          injection hA with hA1 hA2
          subst hA1 hA2
          by_cases hy : l[k - 1] < l[k]
          · have HR : Hid (Rise (l.take (k + 1)) ∧ Within lo hi (l.take (k + 1))) := rise_next hlt HO.out hx.1 hx.2 (fun _ => hy)
            generalize l[k] = x at hcell hx hx1 hy
            generalize l[k - 1] = y at hcell0 hy
            clear hat HO hx
            have hk0 : decide ((k : Int) > 0) = true := by simp; omega
            have hy1 : decide (y ≥ x) = false := by simp; omega
            go_wp2_with (go_at_call 75; refine (l1In_any _ _ _ _).mono ?_; rintro e w' ⟨rfl, rfl⟩)
            all_goals
              go_round
              case rel => exact ⟨k + 1, by omega, by go_num, HR⟩
              case measure => simp [intOf]; omega
          · have HR : Hid (riseB lo hi l = false) := rise_fall hlt h0 (by omega)
            generalize l[k] = x at hcell hx hx1 hy
            generalize l[k - 1] = y at hcell0 hy
            clear hat HO hx
            have hk0 : decide ((k : Int) > 0) = true := by simp; omega
            have hy1 : decide (y ≥ x) = true := by simp; omega
            go_wp2_with (go_at_call 75; refine (l1In_any _ _ _ _).mono ?_; rintro e w' ⟨rfl, rfl⟩)
            all_goals
              go_ret
              exact ⟨ret_bool HR.out.symm, rfl⟩
        · have HR : Hid (Rise (l.take (k + 1)) ∧ Within lo hi (l.take (k + 1))) := rise_next hlt HO.out hx.1 hx.2 (fun h => absurd h h0)
          generalize l[k] = x at hcell hx hx1
          clear hat HO hx
          have hk0 : decide ((k : Int) > 0) = false := by simp; omega
          go_wp2_with (go_at_call 75; refine (l1In_any _ _ _ _).mono ?_; rintro e w' ⟨rfl, rfl⟩)
          all_goals
            go_round
            case rel => exact ⟨k + 1, by omega, by go_num, HR⟩
            case measure => simp [intOf]; omega
      · have HR : Hid (riseB lo hi l = false) := rise_out hlt (by omega)
        have hx1 : (decide (lo ≤ l[k]) && decide (l[k] ≤ hi)) = false := by
          rw [Bool.eq_false_iff]; intro h; rw [Bool.and_eq_true, decide_eq_true_iff, decide_eq_true_iff] at h; exact hx h
        generalize l[k] = x at hcell hx hx1
        clear hat HO hx
        go_wp2_with (go_at_call 75; refine (l1In_any _ _ _ _).mono ?_; rintro e w' ⟨rfl, rfl⟩)
        all_goals
          go_ret
          exact ⟨ret_bool HR.out.symm, rfl⟩
    · have HR : Hid (riseB lo hi l = true) := by have := HO.out; rw [List.take_of_length_le (by omega)] at this; exact riseB_iff.2 this
      clear HO hat
      go_wp2_with fail
      go_ret
      exact ⟨ret_bool HR.out.symm, rfl⟩

theorem stem_next {p : ByteArray} {k : Nat} {m : Int} (hk : k < p.size) (h : stemAt p.data.toList = stemFrom (p.data.toList.drop k) k m) :
    stemAt p.data.toList = if p[k] = 42 ∨ p[k] = 63 then -1 else if p[k] = 37 then (if 0 ≤ m then -1 else stemFrom (p.data.toList.drop (k + 1)) (k + 1) k) else stemFrom (p.data.toList.drop (k + 1)) (k + 1) m := by
  rw [h, List.drop_eq_getElem_cons (by simpa using hk)]
  rfl

set_option maxHeartbeats 1000000 in
theorem l2Stem_any (p : ByteArray) (w : World) (hs : p.size ≤ maxLen) :
    Calls Try.prog 71 #[.string p] w fun e w' => e = .returned (.int .i64 (stemAt p.data.toList)) ∧ w = w' := by
  unfold maxLen at hs
  go_enter Try.func71, Try.ntmps71
  go_wp2_with fail
  go_loop [3, 4] (fun m i => ∃ (k : Nat) (x : Int), k ≤ p.size ∧ m = .int .i64 x ∧ i = .int .i64 k ∧ Hid (stemAt p.data.toList = stemFrom (p.data.toList.drop k) k x)) (fun _ i => p.size - (intOf i).toNat)
  case atStart => exact ⟨0, -1, Nat.zero_le _, rfl, rfl, rfl⟩
  case round =>
    obtain ⟨k, x, hk, rfl, rfl, HO⟩ := hrel
    by_cases hlt : k < p.size
    · have HS := Lib.hid (stem_next hlt HO.out)
      clear HO
      by_cases h42 : p[k].toNat = 42
      · have c1 : ((p[k].toNat : Int) == 42) = true := by simp [h42]
        have HR : Hid (stemAt p.data.toList = -1) := by have hb : p[k] = 42 := UInt8.toNat_inj.1 h42; exact HS.out.trans (if_pos (.inl hb))
        clear HS h42
        go_wp2_with fail
        go_ret
        exact ⟨by rw [HR.out] <;> rfl, rfl⟩
      · have c1 : ((p[k].toNat : Int) == 42) = false := by simp; omega
        by_cases h63 : p[k].toNat = 63
        · have c2 : ((p[k].toNat : Int) == 63) = true := by simp [h63]
          have HR : Hid (stemAt p.data.toList = -1) := by have hb : p[k] = 63 := UInt8.toNat_inj.1 h63; exact HS.out.trans (if_pos (.inr hb))
          clear HS h42 h63
          go_wp2_with fail
          go_ret
          exact ⟨by rw [HR.out] <;> rfl, rfl⟩
        · have c2 : ((p[k].toNat : Int) == 63) = false := by simp; omega
          have HS2 := HS.out
          rw [if_neg (by rintro (h | h); exact h42 (by rw [h]; rfl); exact h63 (by rw [h]; rfl))] at HS2
          by_cases h37 : p[k].toNat = 37
          · have c3 : ((p[k].toNat : Int) == 37) = true := by simp [h37]
            rw [if_pos (UInt8.toNat_inj.1 h37 : p[k] = 37)] at HS2
            by_cases hx : 0 ≤ x
            · have HR := Lib.hid (HS2.trans (if_pos hx))
              clear HS HS2 h42 h63 h37
              go_wp2_with fail
              go_ret
              exact ⟨by rw [HR.out] <;> rfl, rfl⟩
            · have HR := Lib.hid (HS2.trans (if_neg hx))
              clear HS HS2 h42 h63 h37
              go_wp2_with fail
              go_round
              case rel => exact ⟨k + 1, k, by omega, rfl, by go_num, HR⟩
              case measure => simp [intOf]; omega
          · have c3 : ((p[k].toNat : Int) == 37) = false := by simp; omega
            rw [if_neg (fun h : p[k] = 37 => h37 (by rw [h]; rfl))] at HS2
            have HR := Lib.hid HS2
            clear HS HS2 h42 h63 h37
            go_wp2_with fail
            go_round
            case rel => exact ⟨k + 1, x, by omega, rfl, by go_num, HR⟩
            case measure => simp [intOf]; omega
    · have HR : Hid (stemAt p.data.toList = x) := by rw [HO.out, List.drop_of_length_le (by rw [len_eq]; omega)]; rfl
      clear HO
      go_wp2_with fail
      go_ret
      exact ⟨by rw [HR.out] <;> rfl, rfl⟩

end Go.Proofs.Ytcplooeohdhlkaa
