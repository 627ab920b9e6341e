/- Walks: a drawn pattern with a path that it may fit. -/
import Derived.Test.YtcplooeohdhlkaaSc
namespace Go.Proofs.Ytcplooeohdhlkaa
open Go.RowKit Pth

theorem fillT_len (p t : List UInt8) : (fillT p t).length ≤ 60 := by
  unfold fillT
  split
  · rename_i h
    simp only [fillOk, Bool.and_eq_true, decide_eq_true_iff] at h
    exact h.2.2.2.2
  · simp

set_option maxHeartbeats 2000000 in
theorem drawStem_any (A : Option Addr) (n c : Nat) (w : World) (h : BytesIn w A n) (hn : n ≤ 2000000) :
    Calls Try.prog 29 #[.slice A n c] w (Drawn2 w) := by
  have C := Lib.hid (stemPattern_any w.heap.size w.heap.size A n c 0 _ (cur_new (c := c) h) hn (by omega) (by simp))
  clear h
  go_enter Try.func29, Try.ntmps29
  go_wp2_with fail
  refine C.out.mono ?_
  rintro e w1 ⟨s, k1, hs, hk1, rfl, hC1, hg1⟩
  have HB := Lib.hid (below_cur (below_new w _) hg1)
  have C2 := Lib.hid (name_any _ _ A n c k1 _ hC1 hn (by omega) HB.out.size)
  clear C hC1 hg1
  go_wp2_with fail
  refine C2.out.mono ?_
  rintro e w2 ⟨s2, k2, hs2, hk2, rfl, hC2, hg2⟩
  have HB2 := Lib.hid (below_cur HB.out hg2)
  have HC2 := Lib.hid hC2
  clear C2 hC2 hg2
  go_wp2_with fail
  refine (specFill_l s s2.data.toList w2 (by unfold maxLen; omega) (by rw [len_eq]; unfold maxLen; omega)).mono ?_
  rintro e w3 ⟨rfl, hb3⟩
  have hfl := fillT_len s.data.toList s2.data.toList
  have HB3 := Lib.hid (bthen HB2.out hb3)
  have hC3 := cur_below HC2.out HB2.out.size hb3
  have C4 := Lib.hid (one_any _ _ A n c k2 4 w3 hC3 hn (by omega) (by omega) (by omega))
  have C5 := Lib.hid (name_any _ _ A n c k2 w3 hC3 hn (by omega) HB3.out.size)
  clear HC2 hC3 hb3
  generalize fillT s.data.toList s2.data.toList = t at hfl
  generalize fillOk s.data.toList s2.data.toList = ok
  rcases ok with _ | _
  · go_wp2_with fail
    refine C5.out.mono ?_
    rintro e w4 ⟨s4, k4, hs4, hk4, rfl, hC4, hg4⟩
    have HB4 := Lib.hid (below_cur HB3.out hg4)
    clear C4 C5 hC4 hg4
    go_wp2_with fail
    go_ret2
    exact ⟨s.data.toList, s4.data.toList, by rw [len_eq]; omega, by rw [len_eq]; omega, rfl, HB4.out⟩
  · go_wp2_with fail
    refine C4.out.mono ?_
    rintro e w4 ⟨q, rfl, hC4, hg4⟩
    have HB4 := Lib.hid (below_cur HB3.out hg4)
    have C6 := Lib.hid (name_any _ _ A n c _ w4 hC4 hn (by omega) HB4.out.size)
    clear C4 C5 hC4 hg4
    rcases q with _ | _
    · go_wp2_with fail
      go_ret2
      exact ⟨s.data.toList, t, by rw [len_eq]; omega, by omega, rfl, HB4.out⟩
    · go_wp2_with fail
      refine C6.out.mono ?_
      rintro e w5 ⟨s5, k5, hs5, hk5, rfl, hC5, hg5⟩
      have HB5 := Lib.hid (below_cur HB4.out hg5)
      clear C6 hC5 hg5
      go_wp2_with fail
      go_ret2
      exact ⟨s.data.toList, s5.data.toList, by rw [len_eq]; omega, by rw [len_eq]; omega, rfl, HB5.out⟩

end Go.Proofs.Ytcplooeohdhlkaa
