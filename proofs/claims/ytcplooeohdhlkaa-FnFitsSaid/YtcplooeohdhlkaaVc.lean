/- Walks: the law of fits. -/
import Derived.Test.YtcplooeohdhlkaaRc
import Derived.Test.YtcplooeohdhlkaaVb
import Derived.Test.YtcplooeohdhlkaaTj
namespace Go.Proofs.Ytcplooeohdhlkaa
open Go.RowKit Pth

theorem implAll_l (q : List UInt8) (l : List (List UInt8)) (v : Value) (w : World) (hq : q.length ≤ 300) (hr : RowV w v (S l)) (hx : ∀ x ∈ l, x.length ≤ 2000000) : Calls Try.prog 21 #[.string ⟨q.toArray⟩, v] w (TextsOk (allT q l) (allOk q l) w) :=
  implAll_any ⟨q.toArray⟩ l v w (by unfold maxLen; show q.length ≤ _; omega) hr hx
theorem specAll_l (q : List UInt8) (l : List (List UInt8)) (v : Value) (w : World) (hq : q.length ≤ 300) (hr : RowV w v (S l)) (hx : ∀ x ∈ l, x.length ≤ 2000000) : Calls Try.prog 22 #[.string ⟨q.toArray⟩, v] w (TextsOk (allT q l) (allOk q l) w) :=
  specAll_any ⟨q.toArray⟩ l v w (by unfold maxLen; show q.length ≤ _; omega) hr hx
theorem implStart_l (r : List UInt8) (w : World) (hr : r.length ≤ 300) : Calls Try.prog 15 #[.string ⟨r.toArray⟩] w (IntsOk (startT r) (patL r) w) :=
  implStart_any ⟨r.toArray⟩ w (by unfold maxLen; show r.length ≤ _; omega)
theorem specStart_l (r : List UInt8) (w : World) (hr : r.length ≤ 300) : Calls Try.prog 24 #[.string ⟨r.toArray⟩] w (IntsOk (startT r) (patL r) w) :=
  specStart_any ⟨r.toArray⟩ w (by unfold maxLen; show r.length ≤ _; omega)
theorem implStep_l (u : List UInt8) (l : List Int) (b : UInt8) (v : Value) (w : World) (hu : u.length ≤ 300) (hr : RowV w v (I l)) : Calls Try.prog 16 #[.string ⟨u.toArray⟩, v, .int .u8 (b.toNat : Int)] w (IntsOk (stepT u l b) (stepOk u l b) w) :=
  implStep_any ⟨u.toArray⟩ l b v w hr (by unfold maxLen; show u.length ≤ _; omega)
theorem specStep_l (u : List UInt8) (l : List Int) (b : UInt8) (v : Value) (w : World) (hu : u.length ≤ 300) (hr : RowV w v (I l)) : Calls Try.prog 26 #[.string ⟨u.toArray⟩, v, .int .u8 (b.toNat : Int)] w (IntsOk (stepT u l b) (stepOk u l b) w) :=
  specStep_any ⟨u.toArray⟩ l b v w hr (by unfold maxLen; show u.length ≤ _; omega)
theorem implFits_l (p s : List UInt8) (w : World) (hp : p.length ≤ 300) (hs : s.length ≤ 300) : Calls Try.prog 13 #[.string ⟨p.toArray⟩, .string ⟨s.toArray⟩] w (BoolsPost (fitsT p s) (fitsOk p s) w) :=
  implFits_any ⟨p.toArray⟩ ⟨s.toArray⟩ w (by unfold maxLen; show p.length ≤ _; omega) (by unfold maxLen; show s.length ≤ _; omega)
theorem specFits_l (p s : List UInt8) (w : World) (hp : p.length ≤ 300) (hs : s.length ≤ 300) : Calls Try.prog 14 #[.string ⟨p.toArray⟩, .string ⟨s.toArray⟩] w (BoolsPost (fitsT p s) (fitsOk p s) w) :=
  specFits_any ⟨p.toArray⟩ ⟨s.toArray⟩ w (by unfold maxLen; show p.length ≤ _; omega) (by unfold maxLen; show s.length ≤ _; omega)
theorem implPlain_l (p : List UInt8) (w : World) (hp : p.length ≤ 300) : Calls Try.prog 17 #[.string ⟨p.toArray⟩] w (BoolsPost (plainT p) (patL p) w) :=
  implPlain_any ⟨p.toArray⟩ w (by unfold maxLen; show p.length ≤ _; omega)
theorem allT_len (q : List UInt8) (l : List (List UInt8)) : (allT q l).length ≤ l.length := by
  unfold allT
  split
  · exact List.length_filter_le _ _
  · simp
theorem stepT_len (u : List UInt8) (l : List Int) (b : UInt8) : (stepT u l b).length ≤ u.length + 1 := by
  unfold stepT
  split
  · rename_i h
    simp only [stepOk, Bool.and_eq_true] at h
    exact rise_len21 (step_rise u l b) (step_within b (riseB_iff.1 h.2.1).2)
  · simp
theorem step_fine {p s : List UInt8} {cur : List Int} {k : Nat} (hk : k < s.length) (hp : patL p = true) (hs : pathL s = true) (hc : Rise cur ∧ Within 0 p.length cur) : stepOk p cur s[k] = true ∧ stepT p cur s[k] = stepL p cur s[k] := by
  have h1 : pb (s[k].toNat : Int) = true := by
    simp only [pathL, Bool.and_eq_true, okL, List.all_eq_true] at hs
    exact hs.1 _ (List.getElem_mem hk)
  have h2 : stepOk p cur s[k] = true := by rw [stepOk, hp, riseB_iff.2 hc, h1]; rfl
  exact ⟨h2, by rw [stepT, if_pos h2]⟩
theorem fold_next {p s : List UInt8} {cur : List Int} {k : Nat} (hk : k < s.length) (h : cur = (s.take k).foldl (stepL p) (startL p)) : stepL p cur s[k] = (s.take (k + 1)).foldl (stepL p) (startL p) := by
  rw [List.take_succ_eq_append_getElem hk, List.foldl_append, ← h]; rfl

set_option maxRecDepth 20000 in
set_option maxHeartbeats 8000000 in
theorem fnFits_any (A A2 : Option Addr) (n c n2 c2 : Nat) (w : World) (hin : BytesIn w A n) (hin2' : BytesIn w A2 n2) (hnm : n ≤ 9223372036854775807) (hnm2 : n2 ≤ 9223372036854775807) (hsum : n + n2 ≤ 9223372036854775807) :
    Calls Try.prog 3 #[.slice A n c, .slice A2 n2 c2] w (YesPost w) := by
  have hin2 := Lib.hid hin2'
  have IA := Lib.hid implAll_l
  have SA := Lib.hid specAll_l
  have IS := Lib.hid implStart_l
  have SS := Lib.hid specStart_l
  have IT := Lib.hid implStep_l
  have ST := Lib.hid specStep_l
  have IF := Lib.hid implFits_l
  have SF := Lib.hid specFits_l
  have IP := Lib.hid implPlain_l
  clear hin2'
  by_cases hbig : 1048576 < n + n2
  · clear hin
    go_enter Try.func3, Try.ntmps3
    go_wp2_with fail
    go_ret
    exact ⟨rfl, Below.refl _ _⟩
  · have D1 := Lib.hid (drawFits_any A n c w hin (by omega))
    clear hin
    go_enter Try.func3, Try.ntmps3
    go_wp2_with fail
    refine D1.out.mono ?_
    rintro e w1 ⟨p, s, hp, hs, rfl, hb1⟩
    have HB1 := Lib.hid hb1
    clear D1 hb1
    go_wp2_with fail
    refine (IF.out p s w1 hp hs).mono ?_
    rintro e w2 ⟨rfl, hb2⟩
    have HB2 := Lib.hid (bthen HB1.out hb2)
    clear hb2
    go_wp2_with fail
    refine (SF.out p s w2 hp hs).mono ?_
    rintro e w3 ⟨rfl, hb3⟩
    have HB3 := Lib.hid (bthen HB2.out hb3)
    clear hb3
    rcases hok : fitsOk p s with _ | _
    · generalize fitsT p s = F
      clear hok
      go_wp2_with fail
      refine (drawAll_any A2 n2 c2 w3 (bytes_below hin2.out HB3.out) (by omega)).mono ?_
      rintro e y1 ⟨q, l, vl, hq, hl, hlx, rfl, ho1, hb⟩
      have HY1 := Lib.hid (bthen HB3.out hb)
      have RL := Lib.hid (RowV.of_own ho1)
      clear hb ho1
      go_wp2_with fail
      refine (IA.out q l vl y1 hq RL.out (fun x hx => by have := hlx x hx; omega)).mono ?_
      rintro e y2 ⟨va, rfl, ho2, hb⟩
      replace RL := Lib.hid (RL.out.below hb)
      have HY2 := Lib.hid (bthen HY1.out hb)
      have RA := Lib.hid (RowV.of_own ho2)
      clear hb ho2
      go_wp2_with fail
      refine (SA.out q l vl y2 hq RL.out (fun x hx => by have := hlx x hx; omega)).mono ?_
      rintro e y3 ⟨vb, rfl, ho3, hb⟩
      clear RL
      replace RA := Lib.hid (RA.out.below hb)
      have HY3 := Lib.hid (bthen HY2.out hb)
      have RB := Lib.hid (RowV.of_own ho3)
      have hal := allT_len q l
      generalize allT q l = ra at RA RB hal
      generalize allOk q l = oa
      clear hb ho3
      go_wp2_with fail
      refine (drawStart_any A2 n2 c2 y3 (bytes_below hin2.out HY3.out) (by omega)).mono ?_
      rintro e y4 ⟨r, hr, rfl, hb⟩
      replace RA := Lib.hid (RA.out.below hb)
      replace RB := Lib.hid (RB.out.below hb)
      have HY4 := Lib.hid (bthen HY3.out hb)
      clear hb
      go_wp2_with fail
      refine (IS.out r y4 hr).mono ?_
      rintro e y5 ⟨vc, rfl, ho5, hb⟩
      replace RA := Lib.hid (RA.out.below hb)
      replace RB := Lib.hid (RB.out.below hb)
      have HY5 := Lib.hid (bthen HY4.out hb)
      have RC := Lib.hid (RowV.of_own ho5)
      clear hb ho5
      go_wp2_with fail
      refine (SS.out r y5 hr).mono ?_
      rintro e y6 ⟨vd, rfl, ho6, hb⟩
      replace RA := Lib.hid (RA.out.below hb)
      replace RB := Lib.hid (RB.out.below hb)
      replace RC := Lib.hid (RC.out.below hb)
      have HY6 := Lib.hid (bthen HY5.out hb)
      have RD := Lib.hid (RowV.of_own ho6)
      have hcl := startT_len r
      generalize startT r = rc at RC RD hcl
      generalize patL r = oc
      clear hb ho6
      go_wp2_with fail
      refine (drawStep_any A2 n2 c2 y6 (bytes_below hin2.out HY6.out) (by omega)).mono ?_
      rintro e y7 ⟨u, lu, bu, vu, hu, hlu, rfl, ho7, hb⟩
      replace RA := Lib.hid (RA.out.below hb)
      replace RB := Lib.hid (RB.out.below hb)
      replace RC := Lib.hid (RC.out.below hb)
      replace RD := Lib.hid (RD.out.below hb)
      have HY7 := Lib.hid (bthen HY6.out hb)
      have RU := Lib.hid (RowV.of_own ho7)
      clear hb ho7
      go_wp2_with fail
      refine (IT.out u lu bu vu y7 hu RU.out).mono ?_
      rintro e y8 ⟨vf, rfl, ho8, hb⟩
      replace RA := Lib.hid (RA.out.below hb)
      replace RB := Lib.hid (RB.out.below hb)
      replace RC := Lib.hid (RC.out.below hb)
      replace RD := Lib.hid (RD.out.below hb)
      replace RU := Lib.hid (RU.out.below hb)
      have HY8 := Lib.hid (bthen HY7.out hb)
      have RF := Lib.hid (RowV.of_own ho8)
      clear hb ho8
      go_wp2_with fail
      refine (ST.out u lu bu vu y8 hu RU.out).mono ?_
      rintro e y9 ⟨vg, rfl, ho9, hb⟩
      clear RU
      replace RA := Lib.hid (RA.out.below hb)
      replace RB := Lib.hid (RB.out.below hb)
      replace RC := Lib.hid (RC.out.below hb)
      replace RD := Lib.hid (RD.out.below hb)
      replace RF := Lib.hid (RF.out.below hb)
      have HY9 := Lib.hid (bthen HY8.out hb)
      have RG := Lib.hid (RowV.of_own ho9)
      have hfl := stepT_len u lu bu
      generalize stepT u lu bu = rf at RF RG hfl
      generalize stepOk u lu bu = of
      clear hb ho9
      go_wp2_with fail
      refine (sameTexts_any ra ra va vb y9 RA.out RB.out (by omega)).mono ?_
      rw [decide_eq_true (rfl : ra = ra)]
      rintro e z1 ⟨rfl, hb⟩
      replace RC := Lib.hid (RC.out.below hb)
      replace RD := Lib.hid (RD.out.below hb)
      replace RF := Lib.hid (RF.out.below hb)
      replace RG := Lib.hid (RG.out.below hb)
      have HZ1 := Lib.hid (bthen HY9.out hb)
      clear hb
      go_wp2_with fail
      refine (sameInts_any rc rc vc vd z1 RC.out RD.out (by omega)).mono ?_
      rw [decide_eq_true (rfl : rc = rc)]
      rintro e z2 ⟨rfl, hb⟩
      replace RF := Lib.hid (RF.out.below hb)
      replace RG := Lib.hid (RG.out.below hb)
      have HZ2 := Lib.hid (bthen HZ1.out hb)
      clear hb
      go_wp2_with fail
      refine (sameInts_any rf rf vf vg z2 RF.out RG.out (by omega)).mono ?_
      rw [decide_eq_true (rfl : rf = rf)]
      rintro e z3 ⟨rfl, hb⟩
      have HZ3 := Lib.hid (bthen HZ2.out hb)
      clear hb
      go_wp2_with fail
      go_ret
      exact ⟨rfl, HZ3.out⟩
    · have hF : fitsT p s = fitsL p s := by rw [fitsT, hok]; rfl
      have hpp : patL p = true ∧ pathL s = true := by simpa [fitsOk] using hok
      have HPP := Lib.hid hpp
      have hfitM := fits_fitM p s
      have hhas : fitsL p s = hasL ((s.take s.length).foldl (stepL p) (startL p)) p.length := by rw [List.take_length]; rfl
      have I1 := fun W => IS.out p W hp
      have hst : startT p = startL p := by rw [startT, if_pos hpp.1]
      rw [hst, hpp.1] at I1
      have HI1 := Lib.hid I1
      have P1 := fun W => IP.out p W hp
      have hplain : plainT p = pathL p := by rw [plainT, hpp.1]; rfl
      rw [hplain, hpp.1] at P1
      have HP1 := Lib.hid P1
      have heq : pathL p = true → fitsL p s = decide (s = p) := fun h => path_fit (by simp only [pathL, Bool.and_eq_true] at h; exact h.1)
      have HEQ := Lib.hid heq
      have FT := fun W => fitted_any (p.length + s.length) p s W rfl (by omega)
      rw [← hfitM] at FT
      have HFT := Lib.hid FT
      have HH := Lib.hid hhas
      rw [hF]
      clear hok hF hpp hfitM hhas I1 hst P1 hplain heq FT
      generalize fitsL p s = F at HEQ HFT HH
      go_wp2_with fail
      refine (HI1.out w3).mono ?_
      rintro e w4 ⟨v4, rfl, hown4, hb4⟩
      have HB4 := Lib.hid (bthen HB3.out hb4)
      have HR4 := Lib.hid (RowV.of_own hown4)
      clear hown4 hb4
      go_wp2_with fail
      go_loopw [11, 13] (fun u i wr => ∃ (cur : List Int) (k : Nat), k ≤ s.length ∧ i = .int .i64 k ∧ Hid (RowV wr u (I cur)) ∧ Hid (Below w.heap.size w wr) ∧ Hid (Rise cur ∧ Within 0 p.length cur) ∧ Hid (cur = (s.take k).foldl (stepL p) (startL p))) (fun _ i _ => s.length - (intOf i).toNat)
      case atStart => exact ⟨startL p, 0, Nat.zero_le _, rfl, HR4, HB4, ⟨start_rise p, start_within p⟩, rfl⟩
      case round =>
        clear HR4 HB4
        obtain ⟨cur, k, hk, rfl, HR, HB, HC, HS⟩ := hrel
        by_cases hlt : k < s.length
        · obtain ⟨g1, g2⟩ := step_fine hlt HPP.out.1 HPP.out.2 HC.out
          have I2 := fun u W hr => IT.out p cur s[k] u W hp hr
          rw [g1, g2] at I2
          have HI2 := Lib.hid I2
          have HS2 := Lib.hid (fold_next hlt HS.out)
          have HC2 : Hid (Rise (stepL p cur s[k]) ∧ Within 0 p.length (stepL p cur s[k])) := ⟨step_rise _ _ _, step_within _ HC.out.2⟩
          clear g1 g2 I2 HS
          generalize stepL p cur s[k] = nx at HI2 HS2 HC2
          go_wp2_with fail
          refine (HI2.out _ wr HR.out).mono ?_
          rintro e w5 ⟨v5, rfl, hown5, hb5⟩
          have HB5 := Lib.hid (bthen HB.out hb5)
          have HR5 := Lib.hid (RowV.of_own hown5)
          clear hown5 hb5
          go_wp2_with fail
          go_roundw
          case rel => exact ⟨nx, k + 1, by omega, by go_num, HR5, HB5, HC2, HS2⟩
          case measure => simp [intOf]; omega
        · obtain rfl : k = s.length := by omega
          have HF : Hid (hasL cur (p.length : Int) = F) := by rw [HS.out]; exact HH.out.symm
          clear HS HH HC HPP HI1
          go_wp2_with fail
          refine (HP1.out wr).mono ?_
          rintro e w5 ⟨rfl, hb5⟩
          have HB5 := Lib.hid (bthen HB.out hb5)
          have HR5 := Lib.hid (HR.out.below hb5)
          clear hb5 HR HB HP1
          rcases hpl : pathL p with _ | _
          · clear HEQ hpl
            go_wp2_with fail
            refine (has_any cur p.length _ w5 HR5.out).mono ?_
            rw [HF.out]
            rintro e w6 ⟨rfl, rfl⟩
            go_wp2_with fail
            refine (HFT.out w5).mono ?_
            rintro e w6 ⟨rfl, m6, rfl⟩
            have HB6 := Lib.hid (below_drewN HB5.out m6)
            generalize w5.drewN m6 = w6 at HB6
            clear HR5 HB5 HFT HF
            go_wp2_with fail
            refine (drawAll_any A2 n2 c2 w6 (bytes_below hin2.out HB6.out) (by omega)).mono ?_
            rintro e y1 ⟨q, l, vl, hq, hl, hlx, rfl, ho1, hb⟩
            have HY1 := Lib.hid (bthen HB6.out hb)
            have RL := Lib.hid (RowV.of_own ho1)
            clear hb ho1
            go_wp2_with fail
            refine (IA.out q l vl y1 hq RL.out (fun x hx => by have := hlx x hx; omega)).mono ?_
            rintro e y2 ⟨va, rfl, ho2, hb⟩
            replace RL := Lib.hid (RL.out.below hb)
            have HY2 := Lib.hid (bthen HY1.out hb)
            have RA := Lib.hid (RowV.of_own ho2)
            clear hb ho2
            go_wp2_with fail
            refine (SA.out q l vl y2 hq RL.out (fun x hx => by have := hlx x hx; omega)).mono ?_
            rintro e y3 ⟨vb, rfl, ho3, hb⟩
            clear RL
            replace RA := Lib.hid (RA.out.below hb)
            have HY3 := Lib.hid (bthen HY2.out hb)
            have RB := Lib.hid (RowV.of_own ho3)
            have hal := allT_len q l
            generalize allT q l = ra at RA RB hal
            generalize allOk q l = oa
            clear hb ho3
            go_wp2_with fail
            refine (drawStart_any A2 n2 c2 y3 (bytes_below hin2.out HY3.out) (by omega)).mono ?_
            rintro e y4 ⟨r, hr, rfl, hb⟩
            replace RA := Lib.hid (RA.out.below hb)
            replace RB := Lib.hid (RB.out.below hb)
            have HY4 := Lib.hid (bthen HY3.out hb)
            clear hb
            go_wp2_with fail
            refine (IS.out r y4 hr).mono ?_
            rintro e y5 ⟨vc, rfl, ho5, hb⟩
            replace RA := Lib.hid (RA.out.below hb)
            replace RB := Lib.hid (RB.out.below hb)
            have HY5 := Lib.hid (bthen HY4.out hb)
            have RC := Lib.hid (RowV.of_own ho5)
            clear hb ho5
            go_wp2_with fail
            refine (SS.out r y5 hr).mono ?_
            rintro e y6 ⟨vd, rfl, ho6, hb⟩
            replace RA := Lib.hid (RA.out.below hb)
            replace RB := Lib.hid (RB.out.below hb)
            replace RC := Lib.hid (RC.out.below hb)
            have HY6 := Lib.hid (bthen HY5.out hb)
            have RD := Lib.hid (RowV.of_own ho6)
            have hcl := startT_len r
            generalize startT r = rc at RC RD hcl
            generalize patL r = oc
            clear hb ho6
            go_wp2_with fail
            refine (drawStep_any A2 n2 c2 y6 (bytes_below hin2.out HY6.out) (by omega)).mono ?_
            rintro e y7 ⟨u, lu, bu, vu, hu, hlu, rfl, ho7, hb⟩
            replace RA := Lib.hid (RA.out.below hb)
            replace RB := Lib.hid (RB.out.below hb)
            replace RC := Lib.hid (RC.out.below hb)
            replace RD := Lib.hid (RD.out.below hb)
            have HY7 := Lib.hid (bthen HY6.out hb)
            have RU := Lib.hid (RowV.of_own ho7)
            clear hb ho7
            go_wp2_with fail
            refine (IT.out u lu bu vu y7 hu RU.out).mono ?_
            rintro e y8 ⟨vf, rfl, ho8, hb⟩
            replace RA := Lib.hid (RA.out.below hb)
            replace RB := Lib.hid (RB.out.below hb)
            replace RC := Lib.hid (RC.out.below hb)
            replace RD := Lib.hid (RD.out.below hb)
            replace RU := Lib.hid (RU.out.below hb)
            have HY8 := Lib.hid (bthen HY7.out hb)
            have RF := Lib.hid (RowV.of_own ho8)
            clear hb ho8
            go_wp2_with fail
            refine (ST.out u lu bu vu y8 hu RU.out).mono ?_
            rintro e y9 ⟨vg, rfl, ho9, hb⟩
            clear RU
            replace RA := Lib.hid (RA.out.below hb)
            replace RB := Lib.hid (RB.out.below hb)
            replace RC := Lib.hid (RC.out.below hb)
            replace RD := Lib.hid (RD.out.below hb)
            replace RF := Lib.hid (RF.out.below hb)
            have HY9 := Lib.hid (bthen HY8.out hb)
            have RG := Lib.hid (RowV.of_own ho9)
            have hfl := stepT_len u lu bu
            generalize stepT u lu bu = rf at RF RG hfl
            generalize stepOk u lu bu = of
            clear hb ho9
            go_wp2_with fail
            refine (sameTexts_any ra ra va vb y9 RA.out RB.out (by omega)).mono ?_
            rw [decide_eq_true (rfl : ra = ra)]
            rintro e z1 ⟨rfl, hb⟩
            replace RC := Lib.hid (RC.out.below hb)
            replace RD := Lib.hid (RD.out.below hb)
            replace RF := Lib.hid (RF.out.below hb)
            replace RG := Lib.hid (RG.out.below hb)
            have HZ1 := Lib.hid (bthen HY9.out hb)
            clear hb
            go_wp2_with fail
            refine (sameInts_any rc rc vc vd z1 RC.out RD.out (by omega)).mono ?_
            rw [decide_eq_true (rfl : rc = rc)]
            rintro e z2 ⟨rfl, hb⟩
            replace RF := Lib.hid (RF.out.below hb)
            replace RG := Lib.hid (RG.out.below hb)
            have HZ2 := Lib.hid (bthen HZ1.out hb)
            clear hb
            go_wp2_with fail
            refine (sameInts_any rf rf vf vg z2 RF.out RG.out (by omega)).mono ?_
            rw [decide_eq_true (rfl : rf = rf)]
            rintro e z3 ⟨rfl, hb⟩
            have HZ3 := Lib.hid (bthen HZ2.out hb)
            clear hb
            go_wp2_with fail
            go_ret
            exact ⟨rfl, HZ3.out⟩
          · have hE : F = decide (s = p) := HEQ.out hpl
            have hE2 : (p == s) = F := by
              rw [hE, Bool.eq_iff_iff, beq_iff_eq, decide_eq_true_iff]
              exact eq_comm
            clear HEQ hpl hE
            go_wp2_with fail
            refine (has_any cur p.length _ w5 HR5.out).mono ?_
            rw [HF.out]
            rintro e w6 ⟨rfl, rfl⟩
            go_wp2_with fail
            refine (HFT.out w5).mono ?_
            rintro e w6 ⟨rfl, m6, rfl⟩
            have HB6 := Lib.hid (below_drewN HB5.out m6)
            generalize w5.drewN m6 = w6 at HB6
            clear HR5 HB5 HFT HF
            go_wp2_with fail
            refine (drawAll_any A2 n2 c2 w6 (bytes_below hin2.out HB6.out) (by omega)).mono ?_
            rintro e y1 ⟨q, l, vl, hq, hl, hlx, rfl, ho1, hb⟩
            have HY1 := Lib.hid (bthen HB6.out hb)
            have RL := Lib.hid (RowV.of_own ho1)
            clear hb ho1
            go_wp2_with fail
            refine (IA.out q l vl y1 hq RL.out (fun x hx => by have := hlx x hx; omega)).mono ?_
            rintro e y2 ⟨va, rfl, ho2, hb⟩
            replace RL := Lib.hid (RL.out.below hb)
            have HY2 := Lib.hid (bthen HY1.out hb)
            have RA := Lib.hid (RowV.of_own ho2)
            clear hb ho2
            go_wp2_with fail
            refine (SA.out q l vl y2 hq RL.out (fun x hx => by have := hlx x hx; omega)).mono ?_
            rintro e y3 ⟨vb, rfl, ho3, hb⟩
            clear RL
            replace RA := Lib.hid (RA.out.below hb)
            have HY3 := Lib.hid (bthen HY2.out hb)
            have RB := Lib.hid (RowV.of_own ho3)
            have hal := allT_len q l
            generalize allT q l = ra at RA RB hal
            generalize allOk q l = oa
            clear hb ho3
            go_wp2_with fail
            refine (drawStart_any A2 n2 c2 y3 (bytes_below hin2.out HY3.out) (by omega)).mono ?_
            rintro e y4 ⟨r, hr, rfl, hb⟩
            replace RA := Lib.hid (RA.out.below hb)
            replace RB := Lib.hid (RB.out.below hb)
            have HY4 := Lib.hid (bthen HY3.out hb)
            clear hb
            go_wp2_with fail
            refine (IS.out r y4 hr).mono ?_
            rintro e y5 ⟨vc, rfl, ho5, hb⟩
            replace RA := Lib.hid (RA.out.below hb)
            replace RB := Lib.hid (RB.out.below hb)
            have HY5 := Lib.hid (bthen HY4.out hb)
            have RC := Lib.hid (RowV.of_own ho5)
            clear hb ho5
            go_wp2_with fail
            refine (SS.out r y5 hr).mono ?_
            rintro e y6 ⟨vd, rfl, ho6, hb⟩
            replace RA := Lib.hid (RA.out.below hb)
            replace RB := Lib.hid (RB.out.below hb)
            replace RC := Lib.hid (RC.out.below hb)
            have HY6 := Lib.hid (bthen HY5.out hb)
            have RD := Lib.hid (RowV.of_own ho6)
            have hcl := startT_len r
            generalize startT r = rc at RC RD hcl
            generalize patL r = oc
            clear hb ho6
            go_wp2_with fail
            refine (drawStep_any A2 n2 c2 y6 (bytes_below hin2.out HY6.out) (by omega)).mono ?_
            rintro e y7 ⟨u, lu, bu, vu, hu, hlu, rfl, ho7, hb⟩
            replace RA := Lib.hid (RA.out.below hb)
            replace RB := Lib.hid (RB.out.below hb)
            replace RC := Lib.hid (RC.out.below hb)
            replace RD := Lib.hid (RD.out.below hb)
            have HY7 := Lib.hid (bthen HY6.out hb)
            have RU := Lib.hid (RowV.of_own ho7)
            clear hb ho7
            go_wp2_with fail
            refine (IT.out u lu bu vu y7 hu RU.out).mono ?_
            rintro e y8 ⟨vf, rfl, ho8, hb⟩
            replace RA := Lib.hid (RA.out.below hb)
            replace RB := Lib.hid (RB.out.below hb)
            replace RC := Lib.hid (RC.out.below hb)
            replace RD := Lib.hid (RD.out.below hb)
            replace RU := Lib.hid (RU.out.below hb)
            have HY8 := Lib.hid (bthen HY7.out hb)
            have RF := Lib.hid (RowV.of_own ho8)
            clear hb ho8
            go_wp2_with fail
            refine (ST.out u lu bu vu y8 hu RU.out).mono ?_
            rintro e y9 ⟨vg, rfl, ho9, hb⟩
            clear RU
            replace RA := Lib.hid (RA.out.below hb)
            replace RB := Lib.hid (RB.out.below hb)
            replace RC := Lib.hid (RC.out.below hb)
            replace RD := Lib.hid (RD.out.below hb)
            replace RF := Lib.hid (RF.out.below hb)
            have HY9 := Lib.hid (bthen HY8.out hb)
            have RG := Lib.hid (RowV.of_own ho9)
            have hfl := stepT_len u lu bu
            generalize stepT u lu bu = rf at RF RG hfl
            generalize stepOk u lu bu = of
            clear hb ho9
            go_wp2_with fail
            refine (sameTexts_any ra ra va vb y9 RA.out RB.out (by omega)).mono ?_
            rw [decide_eq_true (rfl : ra = ra)]
            rintro e z1 ⟨rfl, hb⟩
            replace RC := Lib.hid (RC.out.below hb)
            replace RD := Lib.hid (RD.out.below hb)
            replace RF := Lib.hid (RF.out.below hb)
            replace RG := Lib.hid (RG.out.below hb)
            have HZ1 := Lib.hid (bthen HY9.out hb)
            clear hb
            go_wp2_with fail
            refine (sameInts_any rc rc vc vd z1 RC.out RD.out (by omega)).mono ?_
            rw [decide_eq_true (rfl : rc = rc)]
            rintro e z2 ⟨rfl, hb⟩
            replace RF := Lib.hid (RF.out.below hb)
            replace RG := Lib.hid (RG.out.below hb)
            have HZ2 := Lib.hid (bthen HZ1.out hb)
            clear hb
            go_wp2_with fail
            refine (sameInts_any rf rf vf vg z2 RF.out RG.out (by omega)).mono ?_
            rw [decide_eq_true (rfl : rf = rf)]
            rintro e z3 ⟨rfl, hb⟩
            have HZ3 := Lib.hid (bthen HZ2.out hb)
            clear hb
            go_wp2_with fail
            go_ret
            exact ⟨rfl, HZ3.out⟩

end Go.Proofs.Ytcplooeohdhlkaa
