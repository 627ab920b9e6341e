/- Walks: the reference's patterns; a number put to its place. -/
import Derived.Test.YtcplooeohdhlkaaPc
namespace Go.Proofs.Ytcplooeohdhlkaa
open Go.RowKit Pth

theorem pat_next {s : ByteArray} {k : Nat} (h : k < s.size) (hok : patOk (s.data.toList.take k) = true) (hc : patB s[k] = true) : patOk (s.data.toList.take (k + 1)) = true := by
  rw [take_snoc s k h]; unfold patOk at hok ⊢; rw [List.all_append, hok]; simp [hc]
theorem pat_bad {s : ByteArray} (k : Nat) (h : k < s.size) (hc : patB s[k] = false) : patL s.data.toList = false := by
  have : patOk s.data.toList = false := by
    unfold patOk
    rw [List.all_eq_false]
    exact ⟨s[k], mem_at s k h, by rw [hc]; simp⟩
  simp [patL, this]
theorem pat_end {s : ByteArray} {k : Nat} (hk : s.size ≤ k) (hok : patOk (s.data.toList.take k) = true) : patL s.data.toList = (decide ((1 : Int) ≤ (s.size : Int)) && decide ((s.size : Int) ≤ 20)) := by
  rw [take_all s k hk] at hok
  simp only [patL, hok, len_eq, Bool.true_and]
  congr 1 <;> (rw [Bool.eq_iff_iff, decide_eq_true_iff, decide_eq_true_iff]; omega)
theorem patB_of {c : UInt8} (h : pb (c.toNat : Int) = true ∨ c.toNat = 42 ∨ c.toNat = 63 ∨ c.toNat = 37) : patB c = true := by
  rcases h with h | h | h | h
  · simp [patB, h]
  · have : c = 42 := UInt8.toNat_inj.1 h
    simp [patB, this]
  · have : c = 63 := UInt8.toNat_inj.1 h
    simp [patB, this]
  · have : c = 37 := UInt8.toNat_inj.1 h
    simp [patB, this]
theorem patB_not {c : UInt8} (h : pb (c.toNat : Int) = false) (h1 : ¬ c.toNat = 42) (h2 : ¬ c.toNat = 63) (h3 : ¬ c.toNat = 37) : patB c = false := by
  have e1 : (c == 42) = false := by rw [beq_eq_false_iff_ne]; exact fun h => h1 (by rw [h]; rfl)
  have e2 : (c == 63) = false := by rw [beq_eq_false_iff_ne]; exact fun h => h2 (by rw [h]; rfl)
  have e3 : (c == 37) = false := by rw [beq_eq_false_iff_ne]; exact fun h => h3 (by rw [h]; rfl)
  simp [patB, h, e1, e2, e3]

set_option maxHeartbeats 1000000 in
theorem l2Pattern_any (p : ByteArray) (w : World) (hs : p.size ≤ maxLen) :
    Calls Try.prog 51 #[.string p] w fun e w' => e = .returned (.bool (patL p.data.toList)) ∧ Below w.heap.size w w' := by
  unfold maxLen at hs
  go_enter Try.func51, Try.ntmps51
  go_wp2_with fail
  go_loopw [3] (fun i wr => ∃ k : Nat, k ≤ p.size ∧ i = .int .i64 k ∧ Below w.heap.size w wr ∧ Hid (patOk (p.data.toList.take k) = true)) (fun i _ => p.size - (intOf i).toNat)
  case atStart => exact ⟨0, Nat.zero_le _, rfl, Below.refl _ _, rfl⟩
  case round =>
    obtain ⟨k, hk, rfl, hb, HO⟩ := hrel
    have HB := Lib.hid hb
    clear hb
    by_cases hlt : k < p.size
    · by_cases hc : pb (p[k].toNat : Int) = true ∨ p[k].toNat = 42 ∨ p[k].toNat = 63 ∨ p[k].toNat = 37
      · have HR := Lib.hid (pat_next hlt HO.out (patB_of hc))
        clear HO
        by_cases h1 : pb (p[k].toNat : Int) = true
        · clear hc
          go_wp2_with (go_at_call 67; refine (l2Byte_any p[k] _).mono ?_; rintro e w1 ⟨rfl, hb1⟩)
          all_goals
            go_roundw
            case rel => exact ⟨k + 1, by omega, by go_num, HB.out.trans (hb1.mono HB.out.size), HR⟩
            case measure => simp [intOf]; omega
        · have h1' : pb (p[k].toNat : Int) = false := by simpa using h1
          clear h1
          by_cases h42 : p[k].toNat = 42
          · have c1 : ((p[k].toNat : Int) != 42) = false := by simp [h42]
            clear hc h42
            go_wp2_with (go_at_call 67; refine (l2Byte_any p[k] _).mono ?_; rintro e w1 ⟨rfl, hb1⟩)
            all_goals
              go_roundw
              case rel => exact ⟨k + 1, by omega, by go_num, HB.out.trans (hb1.mono HB.out.size), HR⟩
              case measure => simp [intOf]; omega
          · have c1 : ((p[k].toNat : Int) != 42) = true := by simp; omega
            by_cases h63 : p[k].toNat = 63
            · have c2 : ((p[k].toNat : Int) != 63) = false := by simp [h63]
              clear hc h42 h63
              go_wp2_with (go_at_call 67; refine (l2Byte_any p[k] _).mono ?_; rintro e w1 ⟨rfl, hb1⟩)
              all_goals
                go_roundw
                case rel => exact ⟨k + 1, by omega, by go_num, HB.out.trans (hb1.mono HB.out.size), HR⟩
                case measure => simp [intOf]; omega
            · have c2 : ((p[k].toNat : Int) != 63) = true := by simp; omega
              have h37 : p[k].toNat = 37 := by
                rcases hc with hc | hc | hc | hc
                · rw [h1'] at hc; cases hc
                · exact absurd hc h42
                · exact absurd hc h63
                · exact hc
              have c3 : ((p[k].toNat : Int) != 37) = false := by simp [h37]
              clear hc h42 h63 h37
              go_wp2_with (go_at_call 67; refine (l2Byte_any p[k] _).mono ?_; rintro e w1 ⟨rfl, hb1⟩)
              all_goals
                go_roundw
                case rel => exact ⟨k + 1, by omega, by go_num, HB.out.trans (hb1.mono HB.out.size), HR⟩
                case measure => simp [intOf]; omega
      · simp only [not_or, Bool.not_eq_true] at hc
        obtain ⟨h1, h42, h63, h37⟩ := hc
        have HR := Lib.hid (pat_bad k hlt (patB_not h1 h42 h63 h37))
        have c1 : ((p[k].toNat : Int) != 42) = true := by simp; omega
        have c2 : ((p[k].toNat : Int) != 63) = true := by simp; omega
        have c3 : ((p[k].toNat : Int) != 37) = true := by simp; omega
        clear HO h42 h63 h37
        go_wp2_with (go_at_call 67; refine (l2Byte_any p[k] _).mono ?_; rintro e w1 ⟨rfl, hb1⟩)
        all_goals
          go_ret
          exact ⟨ret_bool HR.out.symm, HB.out.trans (hb1.mono HB.out.size)⟩
    · have HR := Lib.hid (pat_end (by omega) HO.out)
      clear HO
      go_wp2_with (go_at_call 75; refine (l1In_any _ _ _ _).mono ?_; rintro e w1 ⟨rfl, rfl⟩)
      go_ret
      exact ⟨ret_bool HR.out.symm, HB.out⟩

end Go.Proofs.Ytcplooeohdhlkaa
