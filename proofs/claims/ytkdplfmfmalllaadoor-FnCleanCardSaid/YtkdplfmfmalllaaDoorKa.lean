/- Walks: the law that a clean path stays. -/
import Derived.Test.YtkdplfmfmalllaaDoorN
import Derived.Test.YtkdplfmfmalllaaDoorDc
namespace Go.Proofs.YtkdplfmfmalllaaDoor
open Go.RowKit Pth

set_option maxRecDepth 100000 in
set_option maxHeartbeats 4000000 in
theorem fnClean_any (A A2 : Option Addr) (n c n2 c2 : Nat) (m : Int) (w : World) (hb : BytesIn w A n) (hb2 : BytesIn w A2 n2) (hn : n ≤ 140737488355328) (hn2 : n2 ≤ 140737488355328) (hm : w.cell? ⟨0, 0, none⟩ = some (.int .i64 m)) :
    Calls Tryd.prog 3 #[.slice A n c, .slice A2 n2 c2] w (YesPost w) := by
  have HB := Lib.hid hb
  have HB2 := Lib.hid hb2
  have HM := Lib.hid hm
  clear hb hb2 hm
  by_cases hbig : 1048576 < n + n2
  · have hbig2 : (1048576 : Int) < (n : Int) + (n2 : Int) := by omega
    go_enter Tryd.func3, Tryd.ntmps3
    go_wp2_with fail
    go_ret
    exact ⟨rfl, Below.refl _ _⟩
  · have hbig2 : ¬ (1048576 : Int) < (n : Int) + (n2 : Int) := by omega
    go_enter Tryd.func3, Tryd.ntmps3
    go_wp2_with fail
    refine (drawClean_any A n c _ HB.out (by omega)).mono ?_
    rintro e w1 ⟨l, hl, rfl, h1⟩
    have H1 := Lib.hid h1
    clear h1 HB
    go_wp2_with fail
    refine (implClean_l l m _ (by unfold maxLen; omega) (keep_max HM.out H1.out)).mono ?_
    rintro e w2 ⟨rfl, h2⟩
    have H2 := Lib.hid (bthen H1.out h2)
    clear h2 H1
    go_wp2_with fail
    refine (specClean_any ⟨l.toArray⟩ _ (by show l.length ≤ maxLen; unfold maxLen; omega)).mono ?_
    rintro e w3 ⟨rfl, h3⟩
    have H3 := Lib.hid (bthen H2.out h3)
    clear h3 H2
    rcases hp : pathL l with _ | _
    · rw [cleanT_no hp]
      clear hp
      have HW := H3
      clear H3
      go_wp2_with fail
      refine (drawIs_any A2 n2 c2 _ (bytes_below HB2.out HW.out) (by omega)).mono ?_
      rintro e u1 ⟨t, ht, rfl, hu1⟩
      have HU1 := Lib.hid (bthen HW.out hu1)
      clear hu1 HW
      go_wp2_with fail
      refine (implIs_l t m _ (by unfold maxLen; omega) (keep_max HM.out HU1.out)).mono ?_
      rintro e u2 ⟨rfl, hu2⟩
      have HU2 := Lib.hid (bthen HU1.out hu2)
      clear hu2 HU1
      go_wp2_with fail
      refine (specIs_l t _ (by unfold maxLen; omega)).mono ?_
      rintro e u3 ⟨rfl, hu3⟩
      have HU3 := Lib.hid (bthen HU2.out hu3)
      clear hu3 HU2
      go_wp2_with fail
      refine (implDir_l t m _ (by unfold maxLen; omega) (keep_max HM.out HU3.out)).mono ?_
      rintro e u4 ⟨rfl, hu4⟩
      have HU4 := Lib.hid (bthen HU3.out hu4)
      clear hu4 HU3
      go_wp2_with fail
      refine (specDir_l t _ (by unfold maxLen; omega)).mono ?_
      rintro e u5 ⟨rfl, hu5⟩
      have HU5 := Lib.hid (bthen HU4.out hu5)
      clear hu5 HU4
      go_wp2_with fail
      refine (implBase_l t m _ (by unfold maxLen; omega) (keep_max HM.out HU5.out)).mono ?_
      rintro e u6 ⟨rfl, hu6⟩
      have HU6 := Lib.hid (bthen HU5.out hu6)
      clear hu6 HU5
      go_wp2_with fail
      refine (specBase_l t _ (by unfold maxLen; omega)).mono ?_
      rintro e u7 ⟨rfl, hu7⟩
      have HU7 := Lib.hid (bthen HU6.out hu7)
      clear hu7 HU6
      generalize isT t = x1
      generalize pathL t = x2
      generalize dirT t = x3
      generalize baseT t = x4
      go_wp2_with fail
      go_ret
      exact ⟨by simp, HU7.out⟩
    · have hcl := clean_path hp
      have hcn := path_len hcl
      have hdb := dir_base hp
      have hcc := clean_clean l
      have hi1 : isT (cleanL l) = true := by rw [isT_yes hcl, hcc]; simp
      have hi2 : cleanT (cleanL l) = cleanL l := by rw [cleanT_yes hcl, hcc]
      have hi3 : inB l (cleanL l) = true := by simp [inB, hp, hcl]
      have hi4 : inT l (cleanL l) = true := by rw [in_yes hi3 (clean_rooted l).symm, clean_parts]; exact in_self _
      have hdl := dirT_len l
      have hbl : (baseT l).length ≤ 1000 := by
        rcases last_of (partsL l) with hq | ⟨a, q, hq⟩
        · rw [baseT_nil hp hq]; omega
        · rw [baseT_last hp hq]
          have h1 := weigh_l l
          rw [hq, weigh_append] at h1
          simp only [weigh] at h1
          omega
      rw [cleanT_yes hp]
      have E1 := Lib.hid hi1
      have E2 := Lib.hid hi2
      have E3 := Lib.hid hi3
      have E4 := Lib.hid hi4
      have E5 := Lib.hid hcl
      have E6 := Lib.hid hdb
      have E7 := Lib.hid hp
      clear hi1 hi2 hi3 hi4 hcl hdb hcc hp
      go_wp2_with fail
      refine (implIs_l (cleanL l) m _ (by unfold maxLen; omega) (keep_max HM.out H3.out)).mono ?_
      rintro e w4 ⟨rfl, h4⟩
      have H4 := Lib.hid (bthen H3.out h4)
      rw [E1.out, E5.out]
      clear h4 H3
      go_wp2_with fail
      refine (implClean_l (cleanL l) m _ (by unfold maxLen; omega) (keep_max HM.out H4.out)).mono ?_
      rintro e w5 ⟨rfl, h5⟩
      have H5 := Lib.hid (bthen H4.out h5)
      rw [E2.out, E5.out]
      clear h5 H4
      go_wp2_with fail
      refine (implDir_l l m _ (by unfold maxLen; omega) (keep_max HM.out H5.out)).mono ?_
      rintro e w6 ⟨rfl, h6⟩
      have H6 := Lib.hid (bthen H5.out h6)
      rw [E7.out]
      clear h6 H5
      go_wp2_with fail
      refine (implBase_l l m _ (by unfold maxLen; omega) (keep_max HM.out H6.out)).mono ?_
      rintro e w7 ⟨rfl, h7⟩
      have H7 := Lib.hid (bthen H6.out h7)
      rw [E7.out]
      clear h7 H6
      go_wp2_with fail
      refine (implIn_l l (cleanL l) m _ (by unfold maxLen; omega) (by unfold maxLen; omega) (keep_max HM.out H7.out)).mono ?_
      rintro e w8 ⟨rfl, h8⟩
      have H8 := Lib.hid (bthen H7.out h8)
      rw [E3.out, E4.out]
      clear h8 H7
      go_wp2_with fail
      refine (implJoin_l (dirT l) (baseT l) m _ (by unfold maxLen; omega) (by unfold maxLen; omega) (keep_max HM.out H8.out)).mono ?_
      rintro e w9 ⟨rfl, h9⟩
      have H9 := Lib.hid (bthen H8.out h9)
      clear h9 H8
      rcases hj : joinB (dirT l) (baseT l) with _ | _
      · have HW := H9
        clear H9 hj
        generalize joinT (dirT l) (baseT l) = z1
        generalize dirT l = z2
        generalize baseT l = z3
        go_wp2_with fail
        refine (drawIs_any A2 n2 c2 _ (bytes_below HB2.out HW.out) (by omega)).mono ?_
        rintro e u1 ⟨t, ht, rfl, hu1⟩
        have HU1 := Lib.hid (bthen HW.out hu1)
        clear hu1 HW
        go_wp2_with fail
        refine (implIs_l t m _ (by unfold maxLen; omega) (keep_max HM.out HU1.out)).mono ?_
        rintro e u2 ⟨rfl, hu2⟩
        have HU2 := Lib.hid (bthen HU1.out hu2)
        clear hu2 HU1
        go_wp2_with fail
        refine (specIs_l t _ (by unfold maxLen; omega)).mono ?_
        rintro e u3 ⟨rfl, hu3⟩
        have HU3 := Lib.hid (bthen HU2.out hu3)
        clear hu3 HU2
        go_wp2_with fail
        refine (implDir_l t m _ (by unfold maxLen; omega) (keep_max HM.out HU3.out)).mono ?_
        rintro e u4 ⟨rfl, hu4⟩
        have HU4 := Lib.hid (bthen HU3.out hu4)
        clear hu4 HU3
        go_wp2_with fail
        refine (specDir_l t _ (by unfold maxLen; omega)).mono ?_
        rintro e u5 ⟨rfl, hu5⟩
        have HU5 := Lib.hid (bthen HU4.out hu5)
        clear hu5 HU4
        go_wp2_with fail
        refine (implBase_l t m _ (by unfold maxLen; omega) (keep_max HM.out HU5.out)).mono ?_
        rintro e u6 ⟨rfl, hu6⟩
        have HU6 := Lib.hid (bthen HU5.out hu6)
        clear hu6 HU5
        go_wp2_with fail
        refine (specBase_l t _ (by unfold maxLen; omega)).mono ?_
        rintro e u7 ⟨rfl, hu7⟩
        have HU7 := Lib.hid (bthen HU6.out hu7)
        clear hu7 HU6
        generalize isT t = x1
        generalize pathL t = x2
        generalize dirT t = x3
        generalize baseT t = x4
        go_wp2_with fail
        go_ret
        exact ⟨by simp, HU7.out⟩
      · have hjt : joinT (dirT l) (baseT l) = cleanL l := (join_yes hj).trans E6.out
        rw [hjt]
        have HW := H9
        clear H9 hj hjt E6 hdl hbl E1 E2 E3 E4 E5 E7
        generalize dirT l = z2
        generalize baseT l = z3
        generalize cleanL l = z4 at hcn
        by_cases hz : z3 = [46, 46]
        · subst hz
          go_wp2_with fail
          refine (drawIs_any A2 n2 c2 _ (bytes_below HB2.out HW.out) (by omega)).mono ?_
          rintro e u1 ⟨t, ht, rfl, hu1⟩
          have HU1 := Lib.hid (bthen HW.out hu1)
          clear hu1 HW
          go_wp2_with fail
          refine (implIs_l t m _ (by unfold maxLen; omega) (keep_max HM.out HU1.out)).mono ?_
          rintro e u2 ⟨rfl, hu2⟩
          have HU2 := Lib.hid (bthen HU1.out hu2)
          clear hu2 HU1
          go_wp2_with fail
          refine (specIs_l t _ (by unfold maxLen; omega)).mono ?_
          rintro e u3 ⟨rfl, hu3⟩
          have HU3 := Lib.hid (bthen HU2.out hu3)
          clear hu3 HU2
          go_wp2_with fail
          refine (implDir_l t m _ (by unfold maxLen; omega) (keep_max HM.out HU3.out)).mono ?_
          rintro e u4 ⟨rfl, hu4⟩
          have HU4 := Lib.hid (bthen HU3.out hu4)
          clear hu4 HU3
          go_wp2_with fail
          refine (specDir_l t _ (by unfold maxLen; omega)).mono ?_
          rintro e u5 ⟨rfl, hu5⟩
          have HU5 := Lib.hid (bthen HU4.out hu5)
          clear hu5 HU4
          go_wp2_with fail
          refine (implBase_l t m _ (by unfold maxLen; omega) (keep_max HM.out HU5.out)).mono ?_
          rintro e u6 ⟨rfl, hu6⟩
          have HU6 := Lib.hid (bthen HU5.out hu6)
          clear hu6 HU5
          go_wp2_with fail
          refine (specBase_l t _ (by unfold maxLen; omega)).mono ?_
          rintro e u7 ⟨rfl, hu7⟩
          have HU7 := Lib.hid (bthen HU6.out hu7)
          clear hu7 HU6
          generalize isT t = x1
          generalize pathL t = x2
          generalize dirT t = x3
          generalize baseT t = x4
          go_wp2_with fail
          go_ret
          exact ⟨by simp, HU7.out⟩
        · have hz2 : (z3 == [46, 46]) = false := by simpa using hz
          go_wp2_with fail
          refine (drawIs_any A2 n2 c2 _ (bytes_below HB2.out HW.out) (by omega)).mono ?_
          rintro e u1 ⟨t, ht, rfl, hu1⟩
          have HU1 := Lib.hid (bthen HW.out hu1)
          clear hu1 HW
          go_wp2_with fail
          refine (implIs_l t m _ (by unfold maxLen; omega) (keep_max HM.out HU1.out)).mono ?_
          rintro e u2 ⟨rfl, hu2⟩
          have HU2 := Lib.hid (bthen HU1.out hu2)
          clear hu2 HU1
          go_wp2_with fail
          refine (specIs_l t _ (by unfold maxLen; omega)).mono ?_
          rintro e u3 ⟨rfl, hu3⟩
          have HU3 := Lib.hid (bthen HU2.out hu3)
          clear hu3 HU2
          go_wp2_with fail
          refine (implDir_l t m _ (by unfold maxLen; omega) (keep_max HM.out HU3.out)).mono ?_
          rintro e u4 ⟨rfl, hu4⟩
          have HU4 := Lib.hid (bthen HU3.out hu4)
          clear hu4 HU3
          go_wp2_with fail
          refine (specDir_l t _ (by unfold maxLen; omega)).mono ?_
          rintro e u5 ⟨rfl, hu5⟩
          have HU5 := Lib.hid (bthen HU4.out hu5)
          clear hu5 HU4
          go_wp2_with fail
          refine (implBase_l t m _ (by unfold maxLen; omega) (keep_max HM.out HU5.out)).mono ?_
          rintro e u6 ⟨rfl, hu6⟩
          have HU6 := Lib.hid (bthen HU5.out hu6)
          clear hu6 HU5
          go_wp2_with fail
          refine (specBase_l t _ (by unfold maxLen; omega)).mono ?_
          rintro e u7 ⟨rfl, hu7⟩
          have HU7 := Lib.hid (bthen HU6.out hu7)
          clear hu7 HU6
          generalize isT t = x1
          generalize pathL t = x2
          generalize dirT t = x3
          generalize baseT t = x4
          go_wp2_with fail
          go_ret
          exact ⟨by simp, HU7.out⟩

end Go.Proofs.YtkdplfmfmalllaaDoor
