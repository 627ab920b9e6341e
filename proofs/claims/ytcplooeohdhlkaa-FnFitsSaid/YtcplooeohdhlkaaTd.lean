/- The program's tests on runes, paths, patterns, lists of places; places read off marks and set. -/
import Derived.Test.YtcplooeohdhlkaaTc
import Derived.Laws.RangeAny
namespace Go.Proofs.Ytcplooeohdhlkaa
open Go.RowKit Pth

set_option maxHeartbeats 400000 in
theorem isPathRune_any (c : Int) (w : World) :
    Calls Try.prog 57 #[.int .i32 c] w fun e w' => e = .returned (.bool (pb c)) ∧ w = w' := by
  go_enter Try.func57, Try.ntmps57
  go_wp2
  all_goals
    go_ret
    exact ⟨ret_bool (by rw [Bool.eq_iff_iff]; simp [pb] <;> omega), rfl⟩

/-- A bool is handed back; what lay there lies there. -/
def BoolPost (b : Bool) (w : World) (e : Ending) (w' : World) : Prop := e = .returned (.bool b) ∧ Below w.heap.size w w'

theorem isPathRune_eq {b : Bool} (c : Int) (w : World) (h : Hid (pb c = b)) :
    Calls Try.prog 57 #[.int .i32 c] w fun e w' => e = .returned (.bool b) ∧ w = w' := by
  have := isPathRune_any c w
  rw [h.out] at this
  exact this

set_option maxHeartbeats 1000000 in
theorem isPath_any (s : ByteArray) (w : World) (hs : s.size ≤ maxLen) :
    Calls Try.prog 49 #[.string s] w (BoolPost (pathL s.data.toList) w) := by
  unfold maxLen at hs
  by_cases hbig : 60 < s.size
  · have HP := Lib.hid (pathL_long hbig)
    go_enter Try.func49, Try.ntmps49
    go_wp2
    go_ret
    exact ⟨ret_bool HP.out.symm, Below.refl _ _⟩
  · go_enter Try.func49, Try.ntmps49
    go_wp2
    go_loopw [] (fun wr => ∃ pos : Nat, pos ≤ s.size ∧ wr = w.iter s pos ∧ Hid (okL (s.data.toList.take pos) = true)) (fun wr => s.size - wr.iterPos w.heap.size)
    case atStart => exact ⟨0, Nat.zero_le _, rfl, rfl⟩
    case round =>
      obtain ⟨pos, hp, rfl, HO⟩ := hrel
      by_cases hlt : pos < s.size
      · have hnx : ∀ ty, (Instr.next (.pointer (some ⟨w.heap.size, 0, none⟩)) true ty).run Try.prog (w.iter s pos) = _ := fun ty => run_next_any w s pos ty hlt
        by_cases ha : s[pos].toNat < 128
        · rw [decode_ascii s pos hlt ha] at hnx
          rcases hpb : pb (s[pos].toNat : Int) with _ | _
          · have HB := Lib.hid hpb
            clear hpb
            go_wp2_with (go_at_call 57; refine (isPathRune_eq _ _ HB).mono ?_; rintro e w' ⟨rfl, rfl⟩)
            go_ret
            exact ⟨ret_bool (pathL_false pos hlt HB.out).symm, (Below.refl _ _).alloc (Nat.le_refl _) _⟩
          · have HB := Lib.hid hpb
            clear hpb
            go_wp2_with (go_at_call 57; refine (isPathRune_eq _ _ HB).mono ?_; rintro e w' ⟨rfl, rfl⟩)
            go_roundw
            case rel => exact ⟨pos + 1, by omega, rfl, okL_next hlt HO.out HB.out⟩
            case measure => rw [World.iterPos_iter, World.iterPos_iter]; omega
        · have hd := (decode_high s pos hlt (by omega)).1
          have HB : Hid (pb (((Utf8.decode s pos).1 : Nat) : Int) = false) := pb_high (by omega)
          go_wp2_with (go_at_call 57; refine (isPathRune_eq _ _ HB).mono ?_; rintro e w' ⟨rfl, rfl⟩)
          go_ret
          exact ⟨ret_bool (pathL_false pos hlt (pb_high (by omega))).symm, (Below.refl _ _).alloc (Nat.le_refl _) _⟩
      · have hnx : ∀ ty, (Instr.next (.pointer (some ⟨w.heap.size, 0, none⟩)) true ty).run Try.prog (w.iter s pos) = _ := fun ty => run_next_end w s pos ty hlt
        have HP := Lib.hid (pathL_end (k := pos) (by omega) HO.out)
        go_wp2
        go_ret
        exact ⟨ret_bool (by rw [HP.out]; simp; omega), (Below.refl _ _).alloc (Nat.le_refl _) _⟩

theorem pat_none {s : ByteArray} (h : s.size = 0) : patL s.data.toList = false := by
  simp [patL, len_eq, h]
theorem pat_long {s : ByteArray} (h : 20 < s.size) : patL s.data.toList = false := by
  have : ¬ s.data.toList.length ≤ 20 := by rw [len_eq]; omega
  rw [patL, decide_eq_false this, Bool.and_false, Bool.and_false]
theorem empty_yes {s : ByteArray} (h : s.size = 0) : s.toList.isEmpty = true := by
  have : s.data.toList = [] := List.eq_nil_of_length_eq_zero (by rw [len_eq]; exact h)
  rw [ByteArray.toList_eq, this]; rfl
theorem empty_no {s : ByteArray} (h : ¬ s.size = 0) : s.toList.isEmpty = false := by
  rw [ByteArray.toList_eq]
  cases hl : s.data.toList with
  | nil => exact absurd (by rw [← len_eq, hl]; rfl) h
  | cons _ _ => rfl
theorem pat_high {c : UInt8} (h : 128 ≤ c.toNat) : patB c = false := patB_not (pb_high (by omega)) (by omega) (by omega) (by omega)

set_option maxHeartbeats 2000000 in
theorem isPattern_any (s : ByteArray) (w : World) (hs : s.size ≤ maxLen) :
    Calls Try.prog 48 #[.string s] w (BoolPost (patL s.data.toList) w) := by
  unfold maxLen at hs
  by_cases h0 : s.size = 0
  · have HP := Lib.hid (pat_none h0)
    have hb := empty_yes h0
    go_enter Try.func48, Try.ntmps48
    go_wp2_with fail
    go_ret
    exact ⟨ret_bool HP.out.symm, Below.refl _ _⟩
  · have hb := empty_no h0
    have h0' : ¬ s = ByteArray.empty := by rintro rfl; exact h0 rfl
    by_cases hbig : 20 < s.size
    · have HP := Lib.hid (pat_long hbig)
      go_enter Try.func48, Try.ntmps48
      go_wp2_with fail
      go_ret
      exact ⟨ret_bool HP.out.symm, Below.refl _ _⟩
    · go_enter Try.func48, Try.ntmps48
      go_wp2_with fail
      go_loopw [] (fun wr => ∃ pos : Nat, pos ≤ s.size ∧ wr = w.iter s pos ∧ Hid (patOk (s.data.toList.take pos) = true)) (fun wr => s.size - wr.iterPos w.heap.size)
      case atStart => exact ⟨0, Nat.zero_le _, rfl, rfl⟩
      case round =>
        obtain ⟨pos, hp, rfl, HO⟩ := hrel
        by_cases hlt : pos < s.size
        · have hnx : ∀ ty, (Instr.next (.pointer (some ⟨w.heap.size, 0, none⟩)) true ty).run Try.prog (w.iter s pos) = _ := fun ty => run_next_any w s pos ty hlt
          by_cases ha : s[pos].toNat < 128
          · rw [decode_ascii s pos hlt ha] at hnx
            by_cases hc : pb (s[pos].toNat : Int) = true ∨ s[pos].toNat = 42 ∨ s[pos].toNat = 63 ∨ s[pos].toNat = 37
            · have HR := Lib.hid (pat_next hlt HO.out (patB_of hc))
              rcases hpb : pb (s[pos].toNat : Int) with _ | _
              · have HB := Lib.hid hpb
                rw [hpb] at hc
                clear hpb HO
                by_cases h42 : s[pos].toNat = 42
                · have c1 : ((s[pos].toNat : Int) != 42) = false := by simp [h42]
                  clear hc h42
                  go_wp2_with (go_at_call 57; refine (isPathRune_eq _ _ HB).mono ?_; rintro e w' ⟨rfl, rfl⟩)
                  all_goals
                    go_roundw
                    case rel => exact ⟨pos + 1, by omega, rfl, HR⟩
                    case measure => rw [World.iterPos_iter, World.iterPos_iter]; omega
                · have c1 : ((s[pos].toNat : Int) != 42) = true := by simp; omega
                  by_cases h63 : s[pos].toNat = 63
                  · have c2 : ((s[pos].toNat : Int) != 63) = false := by simp [h63]
                    clear hc h42 h63
                    go_wp2_with (go_at_call 57; refine (isPathRune_eq _ _ HB).mono ?_; rintro e w' ⟨rfl, rfl⟩)
                    all_goals
                      go_roundw
                      case rel => exact ⟨pos + 1, by omega, rfl, HR⟩
                      case measure => rw [World.iterPos_iter, World.iterPos_iter]; omega
                  · have c2 : ((s[pos].toNat : Int) != 63) = true := by simp; omega
                    have h37 : s[pos].toNat = 37 := by
                      rcases hc with hc | hc | hc | hc
                      · cases hc
                      · exact absurd hc h42
                      · exact absurd hc h63
                      · exact hc
                    have c3 : ((s[pos].toNat : Int) != 37) = false := by simp [h37]
                    clear hc h42 h63 h37
                    go_wp2_with (go_at_call 57; refine (isPathRune_eq _ _ HB).mono ?_; rintro e w' ⟨rfl, rfl⟩)
                    all_goals
                      go_roundw
                      case rel => exact ⟨pos + 1, by omega, rfl, HR⟩
                      case measure => rw [World.iterPos_iter, World.iterPos_iter]; omega
              · have HB := Lib.hid hpb
                clear hpb hc HO
                go_wp2_with (go_at_call 57; refine (isPathRune_eq _ _ HB).mono ?_; rintro e w' ⟨rfl, rfl⟩)
                all_goals
                  go_roundw
                  case rel => exact ⟨pos + 1, by omega, rfl, HR⟩
                  case measure => rw [World.iterPos_iter, World.iterPos_iter]; omega
            · simp only [not_or, Bool.not_eq_true] at hc
              obtain ⟨h1, h42, h63, h37⟩ := hc
              have HR := Lib.hid (pat_bad pos hlt (patB_not h1 h42 h63 h37))
              have c1 : ((s[pos].toNat : Int) != 42) = true := by simp; omega
              have c2 : ((s[pos].toNat : Int) != 63) = true := by simp; omega
              have c3 : ((s[pos].toNat : Int) != 37) = true := by simp; omega
              have HB := Lib.hid h1
              clear HO h42 h63 h37 h1
              go_wp2_with (go_at_call 57; refine (isPathRune_eq _ _ HB).mono ?_; rintro e w' ⟨rfl, rfl⟩)
              go_ret
              exact ⟨ret_bool HR.out.symm, (Below.refl _ _).alloc (Nat.le_refl _) _⟩
          · have hd := (decode_high s pos hlt (by omega)).1
            have HB : Hid (pb (((Utf8.decode s pos).1 : Nat) : Int) = false) := pb_high (by omega)
            have HR := Lib.hid (pat_bad pos hlt (pat_high (by omega)))
            have c1 : ((((Utf8.decode s pos).1 : Nat) : Int) != 42) = true := by simp; omega
            have c2 : ((((Utf8.decode s pos).1 : Nat) : Int) != 63) = true := by simp; omega
            have c3 : ((((Utf8.decode s pos).1 : Nat) : Int) != 37) = true := by simp; omega
            clear HO
            go_wp2_with (go_at_call 57; refine (isPathRune_eq _ _ HB).mono ?_; rintro e w' ⟨rfl, rfl⟩)
            go_ret
            exact ⟨ret_bool HR.out.symm, (Below.refl _ _).alloc (Nat.le_refl _) _⟩
        · have hnx : ∀ ty, (Instr.next (.pointer (some ⟨w.heap.size, 0, none⟩)) true ty).run Try.prog (w.iter s pos) = _ := fun ty => run_next_end w s pos ty hlt
          have HP := Lib.hid (pat_end (k := pos) (by omega) HO.out)
          clear HO
          go_wp2_with fail
          go_ret
          exact ⟨ret_bool (by rw [HP.out]; simp; omega), (Below.refl _ _).alloc (Nat.le_refl _) _⟩

end Go.Proofs.Ytcplooeohdhlkaa
