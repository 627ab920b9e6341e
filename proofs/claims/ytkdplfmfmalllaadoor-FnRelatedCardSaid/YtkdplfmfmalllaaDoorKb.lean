/- Walks: the law that the way from one place to another leads there. -/
import Derived.Test.YtkdplfmfmalllaaDoorN
import Derived.Test.YtkdplfmfmalllaaDoorDc
import Derived.Test.YtkdplfmfmalllaaDoorW
namespace Go.Proofs.YtkdplfmfmalllaaDoor
open Go.RowKit Pth

theorem relB_path {a b : List UInt8} (h : relB a b = true) : pathL b = true := by
  simp only [relB, Bool.and_eq_true] at h
  exact h.1.1.1.1.2
theorem relT_len (a b : List UInt8) : (relT a b).length ≤ 60 := by
  unfold relT
  split
  · rename_i h
    simp only [relB, Bool.and_eq_true, decide_eq_true_eq] at h
    exact h.2
  · simp

set_option maxRecDepth 100000 in
set_option maxHeartbeats 4000000 in
theorem fnRelated_any (A A2 : Option Addr) (n c n2 c2 : Nat) (m : Int) (w : World) (hb : BytesIn w A n) (hb2 : BytesIn w A2 n2) (hn : n ≤ 140737488355328) (hn2 : n2 ≤ 140737488355328) (hm : w.cell? ⟨0, 0, none⟩ = some (.int .i64 m)) :
    Calls Tryd.prog 4 #[.slice A n c, .slice A2 n2 c2] w (YesPost w) := by
  have HB := Lib.hid hb
  have HB2 := Lib.hid hb2
  have HM := Lib.hid hm
  clear hb hb2 hm
  by_cases hbig : 1048576 < n + n2
  · have hbig2 : (1048576 : Int) < (n : Int) + (n2 : Int) := by omega
    go_enter Tryd.func4, Tryd.ntmps4
    go_wp2_with fail
    go_ret
    exact ⟨rfl, Below.refl _ _⟩
  · have hbig2 : ¬ (1048576 : Int) < (n : Int) + (n2 : Int) := by omega
    go_enter Tryd.func4, Tryd.ntmps4
    go_wp2_with fail
    refine (drawRel_any A n c _ HB.out (by omega)).mono ?_
    rintro e w1 ⟨a, b, ha, hb, rfl, h1⟩
    have H1 := Lib.hid h1
    clear h1 HB
    go_wp2_with fail
    refine (implRel_l a b m _ (by unfold maxLen; omega) (by unfold maxLen; omega) (keep_max HM.out H1.out)).mono ?_
    rintro e w2 ⟨rfl, h2⟩
    have H2 := Lib.hid (bthen H1.out h2)
    clear h2 H1
    go_wp2_with fail
    refine (specRel_l a b _ (by unfold maxLen; omega) (by unfold maxLen; omega)).mono ?_
    rintro e w3 ⟨rfl, h3⟩
    have H3 := Lib.hid (bthen H2.out h3)
    clear h3 H2
    rcases hp : relB a b with _ | _
    · rw [rel_no hp]
      clear hp
      have HW := H3
      clear H3
      go_wp2_with fail
      refine (drawJoin_any A2 n2 c2 _ (bytes_below HB2.out HW.out) (by omega)).mono ?_
      rintro e u1 ⟨x, y, hx, hy, rfl, hu1⟩
      have HU1 := Lib.hid (bthen HW.out hu1)
      clear hu1 HW
      go_wp2_with fail
      refine (implJoin_l x y m _ (by unfold maxLen; omega) (by unfold maxLen; omega) (keep_max HM.out HU1.out)).mono ?_
      rintro e u2 ⟨rfl, hu2⟩
      have HU2 := Lib.hid (bthen HU1.out hu2)
      clear hu2 HU1
      go_wp2_with fail
      refine (specJoin_l x y _ (by omega) (by omega)).mono ?_
      rintro e u3 ⟨rfl, hu3⟩
      have HU3 := Lib.hid (bthen HU2.out hu3)
      clear hu3 HU2
      go_wp2_with fail
      refine (drawIn_any A2 n2 c2 _ (bytes_below HB2.out HU3.out) (by omega)).mono ?_
      rintro e u4 ⟨s, d, hs, hd, rfl, hu4⟩
      have HU4 := Lib.hid (bthen HU3.out hu4)
      clear hu4 HU3
      go_wp2_with fail
      refine (implIn_l s d m _ (by unfold maxLen; omega) (by unfold maxLen; omega) (keep_max HM.out HU4.out)).mono ?_
      rintro e u5 ⟨rfl, hu5⟩
      have HU5 := Lib.hid (bthen HU4.out hu5)
      clear hu5 HU4
      go_wp2_with fail
      refine (specIn_l s d _ (by unfold maxLen; omega) (by unfold maxLen; omega)).mono ?_
      rintro e u6 ⟨rfl, hu6⟩
      have HU6 := Lib.hid (bthen HU5.out hu6)
      clear hu6 HU5
      generalize inT s d = y1
      generalize inB s d = y2
      have hjj := join_clean (a := x) (b := y)
      rcases hjb : joinB x y with _ | _
      · clear hjj hjb
        generalize joinT x y = y3
        go_wp2_with fail
        go_ret
        exact ⟨rfl, HU6.out⟩
      · obtain ⟨hq1, hq2⟩ := hjj hjb
        have hq3 := path_len hq2
        clear hjj hjb
        generalize joinT x y = y3 at hq1 hq2 hq3
        have Q1 := Lib.hid hq1
        have Q2 := Lib.hid hq2
        clear hq1 hq2
        go_wp2_with fail
        refine (implIs_l y3 m _ (by unfold maxLen; omega) (keep_max HM.out HU6.out)).mono ?_
        rintro e u7 ⟨rfl, hu7⟩
        have HU7 := Lib.hid (bthen HU6.out hu7)
        rw [Q1.out, Q2.out]
        clear hu7 HU6
        go_wp2_with fail
        go_ret
        exact ⟨rfl, HU7.out⟩
    · have hpb := relB_path hp
      have hway := way_there hp
      have hrl := relT_len a b
      have hct := cleanT_yes hpb
      clear hp
      generalize relT a b = r at hway hrl
      have EW := Lib.hid hway
      have EP := Lib.hid hpb
      have EC := Lib.hid hct
      clear hway hpb hct
      go_wp2_with fail
      refine (implJoin_l a r m _ (by unfold maxLen; omega) (by unfold maxLen; omega) (keep_max HM.out H3.out)).mono ?_
      rintro e w4 ⟨rfl, h4⟩
      have H4 := Lib.hid (bthen H3.out h4)
      clear h4 H3
      go_wp2_with fail
      refine (implClean_l b m _ (by unfold maxLen; omega) (keep_max HM.out H4.out)).mono ?_
      rintro e w5 ⟨rfl, h5⟩
      have H5 := Lib.hid (bthen H4.out h5)
      rw [EP.out, EC.out]
      clear h5 H4
      have HW := H5
      clear H5
      rcases hj : joinB a r with _ | _
      · clear hj
        generalize joinT a r = z1
        generalize cleanL b = z2
        go_wp2_with fail
        refine (drawJoin_any A2 n2 c2 _ (bytes_below HB2.out HW.out) (by omega)).mono ?_
        rintro e u1 ⟨x, y, hx, hy, rfl, hu1⟩
        have HU1 := Lib.hid (bthen HW.out hu1)
        clear hu1 HW
        go_wp2_with fail
        refine (implJoin_l x y m _ (by unfold maxLen; omega) (by unfold maxLen; omega) (keep_max HM.out HU1.out)).mono ?_
        rintro e u2 ⟨rfl, hu2⟩
        have HU2 := Lib.hid (bthen HU1.out hu2)
        clear hu2 HU1
        go_wp2_with fail
        refine (specJoin_l x y _ (by omega) (by omega)).mono ?_
        rintro e u3 ⟨rfl, hu3⟩
        have HU3 := Lib.hid (bthen HU2.out hu3)
        clear hu3 HU2
        go_wp2_with fail
        refine (drawIn_any A2 n2 c2 _ (bytes_below HB2.out HU3.out) (by omega)).mono ?_
        rintro e u4 ⟨s, d, hs, hd, rfl, hu4⟩
        have HU4 := Lib.hid (bthen HU3.out hu4)
        clear hu4 HU3
        go_wp2_with fail
        refine (implIn_l s d m _ (by unfold maxLen; omega) (by unfold maxLen; omega) (keep_max HM.out HU4.out)).mono ?_
        rintro e u5 ⟨rfl, hu5⟩
        have HU5 := Lib.hid (bthen HU4.out hu5)
        clear hu5 HU4
        go_wp2_with fail
        refine (specIn_l s d _ (by unfold maxLen; omega) (by unfold maxLen; omega)).mono ?_
        rintro e u6 ⟨rfl, hu6⟩
        have HU6 := Lib.hid (bthen HU5.out hu6)
        clear hu6 HU5
        generalize inT s d = y1
        generalize inB s d = y2
        have hjj := join_clean (a := x) (b := y)
        rcases hjb : joinB x y with _ | _
        · clear hjj hjb
          generalize joinT x y = y3
          go_wp2_with fail
          go_ret
          exact ⟨rfl, HU6.out⟩
        · obtain ⟨hq1, hq2⟩ := hjj hjb
          have hq3 := path_len hq2
          clear hjj hjb
          generalize joinT x y = y3 at hq1 hq2 hq3
          have Q1 := Lib.hid hq1
          have Q2 := Lib.hid hq2
          clear hq1 hq2
          go_wp2_with fail
          refine (implIs_l y3 m _ (by unfold maxLen; omega) (keep_max HM.out HU6.out)).mono ?_
          rintro e u7 ⟨rfl, hu7⟩
          have HU7 := Lib.hid (bthen HU6.out hu7)
          rw [Q1.out, Q2.out]
          clear hu7 HU6
          go_wp2_with fail
          go_ret
          exact ⟨rfl, HU7.out⟩
      · have hjt : joinT a r = cleanL b := (join_yes hj).trans EW.out
        rw [hjt]
        clear hj hjt
        generalize cleanL b = z2
        go_wp2_with fail
        refine (drawJoin_any A2 n2 c2 _ (bytes_below HB2.out HW.out) (by omega)).mono ?_
        rintro e u1 ⟨x, y, hx, hy, rfl, hu1⟩
        have HU1 := Lib.hid (bthen HW.out hu1)
        clear hu1 HW
        go_wp2_with fail
        refine (implJoin_l x y m _ (by unfold maxLen; omega) (by unfold maxLen; omega) (keep_max HM.out HU1.out)).mono ?_
        rintro e u2 ⟨rfl, hu2⟩
        have HU2 := Lib.hid (bthen HU1.out hu2)
        clear hu2 HU1
        go_wp2_with fail
        refine (specJoin_l x y _ (by omega) (by omega)).mono ?_
        rintro e u3 ⟨rfl, hu3⟩
        have HU3 := Lib.hid (bthen HU2.out hu3)
        clear hu3 HU2
        go_wp2_with fail
        refine (drawIn_any A2 n2 c2 _ (bytes_below HB2.out HU3.out) (by omega)).mono ?_
        rintro e u4 ⟨s, d, hs, hd, rfl, hu4⟩
        have HU4 := Lib.hid (bthen HU3.out hu4)
        clear hu4 HU3
        go_wp2_with fail
        refine (implIn_l s d m _ (by unfold maxLen; omega) (by unfold maxLen; omega) (keep_max HM.out HU4.out)).mono ?_
        rintro e u5 ⟨rfl, hu5⟩
        have HU5 := Lib.hid (bthen HU4.out hu5)
        clear hu5 HU4
        go_wp2_with fail
        refine (specIn_l s d _ (by unfold maxLen; omega) (by unfold maxLen; omega)).mono ?_
        rintro e u6 ⟨rfl, hu6⟩
        have HU6 := Lib.hid (bthen HU5.out hu6)
        clear hu6 HU5
        generalize inT s d = y1
        generalize inB s d = y2
        have hjj := join_clean (a := x) (b := y)
        rcases hjb : joinB x y with _ | _
        · clear hjj hjb
          generalize joinT x y = y3
          go_wp2_with fail
          go_ret
          exact ⟨rfl, HU6.out⟩
        · obtain ⟨hq1, hq2⟩ := hjj hjb
          have hq3 := path_len hq2
          clear hjj hjb
          generalize joinT x y = y3 at hq1 hq2 hq3
          have Q1 := Lib.hid hq1
          have Q2 := Lib.hid hq2
          clear hq1 hq2
          go_wp2_with fail
          refine (implIs_l y3 m _ (by unfold maxLen; omega) (keep_max HM.out HU6.out)).mono ?_
          rintro e u7 ⟨rfl, hu7⟩
          have HU7 := Lib.hid (bthen HU6.out hu7)
          rw [Q1.out, Q2.out]
          clear hu7 HU6
          go_wp2_with fail
          go_ret
          exact ⟨rfl, HU7.out⟩

end Go.Proofs.YtkdplfmfmalllaaDoor
