/- Walks: the law of stems, given what the program's functions do. -/
import Derived.Test.YtcplooeohdhlkaaSe
import Derived.Test.YtcplooeohdhlkaaRb
namespace Go.Proofs.Ytcplooeohdhlkaa
open Go.RowKit Pth

theorem specStem_l (p t : List UInt8) (w : World) (hp : p.length ≤ 300) (ht : t.length ≤ 300) : Calls Try.prog 31 #[.string ⟨p.toArray⟩, .string ⟨t.toArray⟩] w (TextOk (stemT p t) (stemOk p t) w) :=
  specStem_any ⟨p.toArray⟩ ⟨t.toArray⟩ w (by unfold maxLen; show p.length ≤ _; omega) (by unfold maxLen; show t.length ≤ _; omega)
theorem specFill_ll (p t : List UInt8) (w : World) (hp : p.length ≤ 300) (ht : t.length ≤ 300) : Calls Try.prog 34 #[.string ⟨p.toArray⟩, .string ⟨t.toArray⟩] w (TextOk (fillT p t) (fillOk p t) w) :=
  specFill_l ⟨p.toArray⟩ t w (by unfold maxLen; show p.length ≤ _; omega) (by unfold maxLen; omega)
theorem specPlain_l (p : List UInt8) (w : World) (hp : p.length ≤ 300) : Calls Try.prog 36 #[.string ⟨p.toArray⟩] w (BoolsPost (plainT p) (patL p) w) :=
  specPlain_any ⟨p.toArray⟩ w (by unfold maxLen; show p.length ≤ _; omega)
theorem stemT_len (p s : List UInt8) : (stemT p s).length ≤ s.length := by
  unfold stemT
  split
  · simp only [mid, List.length_drop, List.length_take]; omega
  · simp

set_option maxHeartbeats 4000000 in
theorem stems_of (A A2 : Option Addr) (n c n2 c2 : Nat) (w : World) (hin : BytesIn w A n) (hin2' : BytesIn w A2 n2) (hnm : n ≤ 9223372036854775807) (hnm2 : n2 ≤ 9223372036854775807) (hsum : n + n2 ≤ 9223372036854775807)
    (HS' : ∀ p t W, Below w.heap.size w W → p.length ≤ 300 → t.length ≤ 300 → Calls Try.prog 30 #[.string ⟨p.toArray⟩, .string ⟨t.toArray⟩] W (TextOk (stemT p t) (stemOk p t) W))
    (HF' : ∀ p t W, Below w.heap.size w W → p.length ≤ 300 → t.length ≤ 300 → Calls Try.prog 32 #[.string ⟨p.toArray⟩, .string ⟨t.toArray⟩] W (TextOk (fillT p t) (fillOk p t) W))
    (HP' : ∀ p W, Below w.heap.size w W → p.length ≤ 300 → Calls Try.prog 17 #[.string ⟨p.toArray⟩] W (BoolsPost (plainT p) (patL p) W)) :
    Calls Try.prog 4 #[.slice A n c, .slice A2 n2 c2] w (YesPost w) := by
  have HS := Lib.hid HS'
  have HF := Lib.hid HF'
  have HP := Lib.hid HP'
  have hin2 := Lib.hid hin2'
  have S1 := Lib.hid specStem_l
  have F1 := Lib.hid specFill_ll
  have P1 := Lib.hid specPlain_l
  clear HS' HF' HP' hin2'
  by_cases hbig : 1048576 < n + n2
  · clear hin
    go_enter Try.func4, Try.ntmps4
    go_wp2_with fail
    go_ret
    exact ⟨rfl, Below.refl _ _⟩
  · have D1 := Lib.hid (drawStem_any A n c w hin (by omega))
    clear hin
    go_enter Try.func4, Try.ntmps4
    go_wp2_with fail
    refine D1.out.mono ?_
    rintro e w1 ⟨p, s, hp, hs, rfl, hb1⟩
    have HB1 := Lib.hid hb1
    clear D1 hb1
    go_wp2_with fail
    refine (HS.out p s w1 HB1.out hp hs).mono ?_
    rintro e w2 ⟨rfl, hb2⟩
    have HB2 := Lib.hid (bthen HB1.out hb2)
    clear hb2
    go_wp2_with fail
    refine (S1.out p s w2 hp hs).mono ?_
    rintro e w3 ⟨rfl, hb3⟩
    have HBw3 := Lib.hid (bthen HB2.out hb3)
    clear hb3
    have hsl := stemT_len p s
    rcases hok : stemOk p s with _ | _
    · generalize stemT p s = R at hsl
      clear hok
      go_wp2_with fail
      refine (drawFill_any A2 n2 c2 w3 (bytes_below hin2.out HBw3.out) (by omega)).mono ?_
      rintro e x1 ⟨q, t2, hq, ht2, rfl, hb⟩
      have HBx1 := Lib.hid (bthen HBw3.out hb)
      clear hb
      go_wp2_with fail
      refine (HF.out q t2 x1 HBx1.out hq (by omega)).mono ?_
      rintro e x2 ⟨rfl, hb⟩
      have HBx2 := Lib.hid (bthen HBx1.out hb)
      clear hb
      go_wp2_with fail
      refine (F1.out q t2 x2 hq (by omega)).mono ?_
      rintro e x3 ⟨rfl, hb⟩
      have HBx3 := Lib.hid (bthen HBx2.out hb)
      clear hb
      go_wp2_with fail
      refine (drawPlain_any A2 n2 c2 x3 (bytes_below hin2.out HBx3.out) (by omega)).mono ?_
      rintro e x4 ⟨r, hr, rfl, hb⟩
      have HBx4 := Lib.hid (bthen HBx3.out hb)
      clear hb
      go_wp2_with fail
      refine (HP.out r x4 HBx4.out hr).mono ?_
      rintro e x5 ⟨rfl, hb⟩
      have HBx5 := Lib.hid (bthen HBx4.out hb)
      clear hb
      go_wp2_with fail
      refine (P1.out r x5 hr).mono ?_
      rintro e x6 ⟨rfl, hb⟩
      have HBx6 := Lib.hid (bthen HBx5.out hb)
      clear hb
      generalize plainT r = pr
      generalize patL r = pk
      rcases hok2 : fillOk q t2 with _ | _
      · generalize fillT q t2 = F2
        clear hok2
        go_wp2_with fail
        go_ret
        exact ⟨rfl, HBx6.out⟩
      · obtain ⟨g1, g2⟩ := fill_stem hok2
        have hfl2 := fillT_len q t2
        have H2 := HS.out q (fillT q t2) x6 HBx6.out hq (by omega)
        rw [g1, g2] at H2
        have HH2 := Lib.hid H2
        clear hok2 g1 g2 H2
        generalize fillT q t2 = F2 at HH2 hfl2
        go_wp2_with fail
        refine HH2.out.mono ?_
        rintro e x7 ⟨rfl, hb⟩
        have HBx7 := Lib.hid (bthen HBx6.out hb)
        clear hb
        go_wp2_with fail
        go_ret
        exact ⟨rfl, HBx7.out⟩
    · obtain ⟨f1, f2, f3⟩ := stem_fill hok
      have H1 := HF.out p (stemT p s) w3 HBw3.out hp (by omega)
      rw [f1, f2] at H1
      have HH1 := Lib.hid H1
      have f4 : (stemT p s).isEmpty = false := by simpa using f3
      clear hok f1 f2 H1
      generalize stemT p s = R at hsl HH1 f3 f4
      go_wp2_with fail
      refine HH1.out.mono ?_
      rintro e w4 ⟨rfl, hb4⟩
      have HBw4 := Lib.hid (bthen HBw3.out hb4)
      clear hb4
      go_wp2_with fail
      refine (drawFill_any A2 n2 c2 w4 (bytes_below hin2.out HBw4.out) (by omega)).mono ?_
      rintro e x1 ⟨q, t2, hq, ht2, rfl, hb⟩
      have HBx1 := Lib.hid (bthen HBw4.out hb)
      clear hb
      go_wp2_with fail
      refine (HF.out q t2 x1 HBx1.out hq (by omega)).mono ?_
      rintro e x2 ⟨rfl, hb⟩
      have HBx2 := Lib.hid (bthen HBx1.out hb)
      clear hb
      go_wp2_with fail
      refine (F1.out q t2 x2 hq (by omega)).mono ?_
      rintro e x3 ⟨rfl, hb⟩
      have HBx3 := Lib.hid (bthen HBx2.out hb)
      clear hb
      go_wp2_with fail
      refine (drawPlain_any A2 n2 c2 x3 (bytes_below hin2.out HBx3.out) (by omega)).mono ?_
      rintro e x4 ⟨r, hr, rfl, hb⟩
      have HBx4 := Lib.hid (bthen HBx3.out hb)
      clear hb
      go_wp2_with fail
      refine (HP.out r x4 HBx4.out hr).mono ?_
      rintro e x5 ⟨rfl, hb⟩
      have HBx5 := Lib.hid (bthen HBx4.out hb)
      clear hb
      go_wp2_with fail
      refine (P1.out r x5 hr).mono ?_
      rintro e x6 ⟨rfl, hb⟩
      have HBx6 := Lib.hid (bthen HBx5.out hb)
      clear hb
      generalize plainT r = pr
      generalize patL r = pk
      rcases hok2 : fillOk q t2 with _ | _
      · generalize fillT q t2 = F2
        clear hok2
        go_wp2_with fail
        go_ret
        exact ⟨rfl, HBx6.out⟩
      · obtain ⟨g1, g2⟩ := fill_stem hok2
        have hfl2 := fillT_len q t2
        have H2 := HS.out q (fillT q t2) x6 HBx6.out hq (by omega)
        rw [g1, g2] at H2
        have HH2 := Lib.hid H2
        clear hok2 g1 g2 H2
        generalize fillT q t2 = F2 at HH2 hfl2
        go_wp2_with fail
        refine HH2.out.mono ?_
        rintro e x7 ⟨rfl, hb⟩
        have HBx7 := Lib.hid (bthen HBx6.out hb)
        clear hb
        go_wp2_with fail
        go_ret
        exact ⟨rfl, HBx7.out⟩

end Go.Proofs.Ytcplooeohdhlkaa
