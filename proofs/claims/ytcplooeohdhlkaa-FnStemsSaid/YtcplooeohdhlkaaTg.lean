/- The program's functions on places, its fits, plain patterns. -/
import Derived.Test.YtcplooeohdhlkaaTf
namespace Go.Proofs.Ytcplooeohdhlkaa
open Go.RowKit Pth

set_option maxHeartbeats 1000000 in
theorem implStart_any (p : ByteArray) (w : World) (hs : p.size ≤ maxLen) :
    Calls Try.prog 15 #[.string p] w (IntsOk (startT p.data.toList) (patL p.data.toList) w) := by
  have C := Lib.hid (isPattern_any p w hs)
  rcases hp : patL p.data.toList with _ | _
  · have HT : Hid (startT p.data.toList = []) := by rw [startT, if_neg (by rw [hp]; simp)]; rfl
    rw [hp] at C
    clear hp
    go_enter Try.func15, Try.ntmps15
    go_wp2_with fail
    refine C.out.mono ?_
    rintro e w1 ⟨rfl, hb1⟩
    have HB1 := Lib.hid hb1
    clear hb1 C
    go_wp2_with fail
    go_ret2
    exact ⟨_, rfl, by rw [HT.out]; exact World.ownsRow_nil _ _ _ _, HB1.out⟩
  · have HT : Hid (startT p.data.toList = startL p.data.toList) := by rw [startT, if_pos hp]; rfl
    have hl := (patL_len hp).2
    rw [hp] at C
    clear hp
    go_enter Try.func15, Try.ntmps15
    go_wp2_with fail
    refine C.out.mono ?_
    rintro e w1 ⟨rfl, hb1⟩
    have HB1 := Lib.hid hb1
    clear hb1 C
    go_wp2_with fail
    refine (startMarks_any p w1 hl).mono ?_
    rintro e w2 ⟨rfl, hb2⟩
    have HB2 := Lib.hid (HB1.out.trans (hb2.mono HB1.out.size))
    clear hb2 HB1
    go_wp2_with fail
    refine (placesIn_any (startL p.data.toList) w2 (start_rise _) (within20 (start_within _) hl)).mono ?_
    rintro e w3 ⟨v3, rfl, hown3, hb3⟩
    have HN3 := Lib.hid (own_base hown3 HB2.out.size)
    have HB3 := Lib.hid (HB2.out.trans (hb3.mono HB2.out.size))
    clear hown3 hb3
    go_wp2_with fail
    go_ret2
    exact ⟨_, rfl, by rw [HT.out]; exact HN3.out, HB3.out⟩

set_option maxHeartbeats 2000000 in
theorem implStep_any (p : ByteArray) (l : List Int) (b : UInt8) (v : Value) (w : World) (hrow : RowV w v (I l)) (hs : p.size ≤ maxLen) :
    Calls Try.prog 16 #[.string p, v, .int .u8 (b.toNat : Int)] w (IntsOk (stepT p.data.toList l b) (stepOk p.data.toList l b) w) := by
  have C := Lib.hid (isPattern_any p w hs)
  have HW := Lib.hid hrow
  clear hrow
  rcases hp : patL p.data.toList with _ | _
  · have HT : Hid (stepOk p.data.toList l b = false) := by rw [stepOk, hp]; rfl
    have HT2 : Hid (stepT p.data.toList l b = []) := by rw [stepT, HT.out]; rfl
    rw [HT.out, HT2.out]
    rw [hp] at C
    clear hp HT HT2
    go_enter Try.func16, Try.ntmps16
    go_wp2_with fail
    refine C.out.mono ?_
    rintro e w1 ⟨rfl, hb1⟩
    have HB1 := Lib.hid hb1
    clear hb1 C
    go_wp2_with fail
    go_ret2
    exact ⟨_, rfl, World.ownsRow_nil _ _ _ _, HB1.out⟩
  · have hl := (patL_len hp).2
    rcases hr : riseB 0 p.data.toList.length l with _ | _
    · have HT : Hid (stepOk p.data.toList l b = false) := by rw [stepOk, hr]; simp [Hid]
      have HT2 : Hid (stepT p.data.toList l b = []) := by rw [stepT, HT.out]; rfl
      rw [HT.out, HT2.out]
      rw [hp] at C
      have HR : Hid (riseB 0 p.size l = false) := by rw [len_eq] at hr; exact hr
      clear hp hr HT HT2
      go_enter Try.func16, Try.ntmps16
      go_wp2_with fail
      refine C.out.mono ?_
      rintro e w1 ⟨rfl, hb1⟩
      have HB1 := Lib.hid hb1
      clear hb1 C
      go_wp2_with fail
      refine (arePlaces_any p l _ w1 (HW.out.below HB1.out) (by omega)).mono ?_
      rw [HR.out]
      rintro e w2 ⟨rfl, rfl⟩
      go_wp2_with fail
      go_ret2
      exact ⟨_, rfl, World.ownsRow_nil _ _ _ _, HB1.out⟩
    · have HR : Hid (riseB 0 p.size l = true) := by rw [len_eq] at hr; exact hr
      obtain ⟨hr1, hr2⟩ := riseB_iff.1 hr
      have HI := Lib.hid hr2
      clear hr1 hr2
      have hb32 : (b.toNat : Int) < 2147483648 := by have := b.toNat_lt; omega
      rcases hb : pb (b.toNat : Int) with _ | _
      · have HT : Hid (stepOk p.data.toList l b = false) := by rw [stepOk, hb]; simp [Hid]
        have HT2 : Hid (stepT p.data.toList l b = []) := by rw [stepT, HT.out]; rfl
        rw [HT.out, HT2.out]
        rw [hp] at C
        have HP := Lib.hid hb
        clear hp hr HT HT2 hb
        go_enter Try.func16, Try.ntmps16
        go_wp2_with fail
        refine C.out.mono ?_
        rintro e w1 ⟨rfl, hb1⟩
        have HB1 := Lib.hid hb1
        clear hb1 C
        go_wp2_with fail
        refine (arePlaces_any p l _ w1 (HW.out.below HB1.out) (by omega)).mono ?_
        rw [HR.out]
        rintro e w2 ⟨rfl, rfl⟩
        go_wp2_with fail
        refine (isPathRune_eq _ _ HP).mono ?_
        rintro e w2 ⟨rfl, rfl⟩
        go_wp2_with fail
        go_ret2
        exact ⟨_, rfl, World.ownsRow_nil _ _ _ _, HB1.out⟩
      · have HT : Hid (stepOk p.data.toList l b = true) := by rw [stepOk, hb, hr, hp]; rfl
        have HT2 : Hid (stepT p.data.toList l b = stepL p.data.toList l b) := by rw [stepT, HT.out]; rfl
        rw [HT.out, HT2.out]
        rw [hp] at C
        have HP := Lib.hid hb
        clear hp hr HT HT2 hb
        go_enter Try.func16, Try.ntmps16
        go_wp2_with fail
        refine C.out.mono ?_
        rintro e w1 ⟨rfl, hb1⟩
        have HB1 := Lib.hid hb1
        clear hb1 C
        go_wp2_with fail
        refine (arePlaces_any p l _ w1 (HW.out.below HB1.out) (by omega)).mono ?_
        rw [HR.out]
        rintro e w2 ⟨rfl, rfl⟩
        go_wp2_with fail
        refine (isPathRune_eq _ _ HP).mono ?_
        rintro e w2 ⟨rfl, rfl⟩
        go_wp2_with fail
        refine (marksAt_any l _ w1 (HW.out.below HB1.out) (within20 HI.out hl)).mono ?_
        rintro e w2 ⟨rfl, hb2⟩
        have HB2 := Lib.hid (HB1.out.trans (hb2.mono HB1.out.size))
        clear hb2
        go_wp2_with fail
        refine (stepMarks_any p l b w2 hl HI.out).mono ?_
        rintro e w3 ⟨rfl, hb3⟩
        have HB3 := Lib.hid (HB2.out.trans (hb3.mono HB2.out.size))
        clear hb3
        go_wp2_with fail
        refine (placesIn_any (stepL p.data.toList l b) w3 (step_rise _ _ _) (within20 (step_within _ HI.out) hl)).mono ?_
        rintro e w4 ⟨v4, rfl, hown4, hb4⟩
        have HN4 := Lib.hid (own_base hown4 HB3.out.size)
        have HB4 := Lib.hid (HB3.out.trans (hb4.mono HB3.out.size))
        clear hown4 hb4
        go_wp2_with fail
        go_ret2
        exact ⟨_, rfl, HN4.out, HB4.out⟩

set_option maxHeartbeats 1000000 in
theorem implFits_any (p s : ByteArray) (w : World) (hp : p.size ≤ maxLen) (hs : s.size ≤ maxLen) :
    Calls Try.prog 13 #[.string p, .string s] w (BoolsPost (fitsT p.data.toList s.data.toList) (fitsOk p.data.toList s.data.toList) w) := by
  have C := Lib.hid (isPattern_any p w hp)
  have D := Lib.hid (fun W => isPath_any s W hs)
  unfold fitsT fitsOk
  rcases h1 : patL p.data.toList with _ | _
  · rw [h1] at C
    clear h1
    go_enter Try.func13, Try.ntmps13
    go_wp2_with fail
    refine C.out.mono ?_
    rintro e w1 ⟨rfl, hb1⟩
    have HB1 := Lib.hid hb1
    clear hb1 C
    go_wp2_with fail
    go_ret2
    exact ⟨rfl, HB1.out⟩
  · have hl := (patL_len h1).2
    rw [h1] at C
    clear h1
    rcases h2 : pathL s.data.toList with _ | _
    · rw [h2] at D
      clear h2
      go_enter Try.func13, Try.ntmps13
      go_wp2_with fail
      refine C.out.mono ?_
      rintro e w1 ⟨rfl, hb1⟩
      have HB1 := Lib.hid hb1
      clear hb1 C
      go_wp2_with fail
      refine (D.out w1).mono ?_
      rintro e w2 ⟨rfl, hb2⟩
      have HB2 := Lib.hid (HB1.out.trans (hb2.mono HB1.out.size))
      clear hb2
      go_wp2_with fail
      go_ret2
      exact ⟨rfl, HB2.out⟩
    · have hl2 := pathL_len h2
      rw [h2] at D
      clear h2
      go_enter Try.func13, Try.ntmps13
      go_wp2_with fail
      refine C.out.mono ?_
      rintro e w1 ⟨rfl, hb1⟩
      have HB1 := Lib.hid hb1
      clear hb1 C
      go_wp2_with fail
      refine (D.out w1).mono ?_
      rintro e w2 ⟨rfl, hb2⟩
      have HB2 := Lib.hid (HB1.out.trans (hb2.mono HB1.out.size))
      clear hb2
      go_wp2_with fail
      refine (fitsWhole_any p s w2 hl (by omega)).mono ?_
      rintro e w3 ⟨rfl, hb3⟩
      have HB3 := Lib.hid (HB2.out.trans (hb3.mono HB2.out.size))
      clear hb3
      go_wp2_with fail
      go_ret2
      exact ⟨rfl, HB3.out⟩

set_option maxHeartbeats 1000000 in
theorem implPlain_any (p : ByteArray) (w : World) (hp : p.size ≤ maxLen) :
    Calls Try.prog 17 #[.string p] w (BoolsPost (plainT p.data.toList) (patL p.data.toList) w) := by
  have C := Lib.hid (isPattern_any p w hp)
  have D := Lib.hid (fun W => isPath_any p W hp)
  unfold plainT
  rcases h1 : patL p.data.toList with _ | _
  · rw [h1] at C
    clear h1
    go_enter Try.func17, Try.ntmps17
    go_wp2_with fail
    refine C.out.mono ?_
    rintro e w1 ⟨rfl, hb1⟩
    have HB1 := Lib.hid hb1
    clear hb1 C
    go_wp2_with fail
    go_ret2
    exact ⟨rfl, HB1.out⟩
  · rw [h1] at C
    clear h1
    go_enter Try.func17, Try.ntmps17
    go_wp2_with fail
    refine C.out.mono ?_
    rintro e w1 ⟨rfl, hb1⟩
    have HB1 := Lib.hid hb1
    clear hb1 C
    go_wp2_with fail
    refine (D.out w1).mono ?_
    rintro e w2 ⟨rfl, hb2⟩
    have HB2 := Lib.hid (HB1.out.trans (hb2.mono HB1.out.size))
    clear hb2
    go_wp2_with fail
    go_ret2
    exact ⟨by simp, HB2.out⟩

end Go.Proofs.Ytcplooeohdhlkaa
