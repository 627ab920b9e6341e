/- Walks: the program's test on a path, and its text of a route. -/
import Derived.Test.YtoahfhidekmodaaDoorXE
import Derived.Laws.RangeAny
namespace Go.Proofs.YtoahfhidekmodaaDoor.D1
open Go.RowKit Pth

/-- A bool is handed back; what lay there lies there. -/
def BoolPost (b : Bool) (w : World) (e : Ending) (w' : World) : Prop := e = .returned (.bool b) ∧ Below w.heap.size w w'

theorem isPathRune_eq {b : Bool} (c : Int) (w : World) (h : Hid (pb c = b)) :
    Calls Tryd.prog 74 #[.int .i32 c] w fun e w' => e = .returned (.bool b) ∧ w = w' := by
  have := isPathRune_any c w
  rw [h.out] at this
  exact this

set_option maxHeartbeats 1000000 in
theorem isPath_any (s : ByteArray) (w : World) (hs : s.size ≤ maxLen) :
    Calls Tryd.prog 65 #[.string s] w (BoolPost (pathL s.data.toList) w) := by
  unfold maxLen at hs
  by_cases hbig : 60 < s.size
  · have HP := Lib.hid (pathL_long hbig)
    go_enter Tryd.func65, Tryd.ntmps65
    go_wp2
    go_ret
    exact ⟨ret_bool HP.out.symm, Below.refl _ _⟩
  · go_enter Tryd.func65, Tryd.ntmps65
    go_wp2
    go_loopw [] (fun wr => ∃ pos : Nat, pos ≤ s.size ∧ wr = w.iter s pos ∧ Hid (okL (s.data.toList.take pos) = true)) (fun wr => s.size - wr.iterPos w.heap.size)
    case atStart => exact ⟨0, Nat.zero_le _, rfl, rfl⟩
    case round =>
      obtain ⟨pos, hp, rfl, HO⟩ := hrel
      by_cases hlt : pos < s.size
      · have hnx : ∀ ty, (Instr.next (.pointer (some ⟨w.heap.size, 0, none⟩)) true ty).run Tryd.prog (w.iter s pos) = _ := fun ty => run_next_any w s pos ty hlt
        by_cases ha : s[pos].toNat < 128
        · rw [decode_ascii s pos hlt ha] at hnx
          rcases hpb : pb (s[pos].toNat : Int) with _ | _
          · have HB := Lib.hid hpb
            clear hpb
            go_wp2_with (go_at_call 74; refine (isPathRune_eq _ _ HB).mono ?_; rintro e w' ⟨rfl, rfl⟩)
            go_ret
            exact ⟨ret_bool (pathL_false pos hlt HB.out).symm, (Below.refl _ _).alloc (Nat.le_refl _) _⟩
          · have HB := Lib.hid hpb
            clear hpb
            go_wp2_with (go_at_call 74; refine (isPathRune_eq _ _ HB).mono ?_; rintro e w' ⟨rfl, rfl⟩)
            go_roundw
            case rel => exact ⟨pos + 1, by omega, rfl, okL_next hlt HO.out HB.out⟩
            case measure => rw [World.iterPos_iter, World.iterPos_iter]; omega
        · have hd := (decode_high s pos hlt (by omega)).1
          have HB : Hid (pb (((Utf8.decode s pos).1 : Nat) : Int) = false) := pb_high (by omega)
          go_wp2_with (go_at_call 74; refine (isPathRune_eq _ _ HB).mono ?_; rintro e w' ⟨rfl, rfl⟩)
          go_ret
          exact ⟨ret_bool (pathL_false pos hlt (pb_high (by omega))).symm, (Below.refl _ _).alloc (Nat.le_refl _) _⟩
      · have hnx : ∀ ty, (Instr.next (.pointer (some ⟨w.heap.size, 0, none⟩)) true ty).run Tryd.prog (w.iter s pos) = _ := fun ty => run_next_end w s pos ty hlt
        have HP := Lib.hid (pathL_end (k := pos) (by omega) HO.out)
        go_wp2
        go_ret
        exact ⟨ret_bool (by rw [HP.out]; simp; omega), (Below.refl _ _).alloc (Nat.le_refl _) _⟩

end Go.Proofs.YtoahfhidekmodaaDoor.D1
