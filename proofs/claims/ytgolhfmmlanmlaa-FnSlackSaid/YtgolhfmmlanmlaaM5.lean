/- Texts of one claim, joined in their order. -/
import Derived.Test.YtgolhfmmlanmlaaM3
import Derived.Test.YtgolhfmmlanmlaaM4

/- Walks: the laws over a graph and lists that what is soonest, latest, slack and the longest way are told alike, given contracts of both programs. -/
namespace Go.Proofs.Ytgolhfmmlanmlaa
open Go.RowKit Pth

/-- A list of the call's own, a number, and whether they are told. -/
def ListNOk (m : List Int) (n : Int) (b : Bool) (w : World) (e : Ending) (w' : World) : Prop := ∃ v', e = .returned (.tuple #[v', .int .i64 n, .bool b]) ∧ w'.ownsRow w.heap.size 3 1 v' m.length (I m) ∧ Below w.heap.size w w'

set_option maxRecDepth 20000 in
set_option maxHeartbeats 16000000 in
theorem exactEarliestEnds_of (ls : List (List Int)) (l : List Int) (m1 : List Int) (R : List Int) (ok : Bool) (v u1 : Value) (w : World) (hst : GraphV w v ls l) (hm1 : RowV w u1 (I m1)) (hL : R.length ≤ 1000000)
    (hsp : ∀ W u y1, GraphV W u ls l → RowV W y1 (I m1) → Calls Try.prog 15 #[u, y1] W ((ListOk R ok W)))
    (him : ∀ W u y1, GraphV W u ls l → RowV W y1 (I m1) → Calls Try.prog 14 #[u, y1] W ((ListOk R ok W))) :
    Calls Try.prog 5 #[v, u1] w (YesZ w) := by
  have HST := Lib.hid hst
  have HSP := Lib.hid hsp
  have HIM := Lib.hid him
  clear hsp him
  obtain ⟨nv, ov, rfl, h1, h2⟩ := hst
  obtain ⟨an, cn, rfl, hn1, hn2, _⟩ := h1.lists
  obtain ⟨ao, co, rfl, ho1, ho2, _⟩ := h2.ints
  clear h1 h2
  have HM1 := Lib.hid hm1
  obtain ⟨ma1, mc1, rfl, hma1, hmb1, _⟩ := hm1.ints
  clear hm1
  unfold maxLen at hn2 ho2 hmb1
  have hne : (ok != ok) = false := by cases ok <;> rfl
  obtain ⟨wa, hwa⟩ : ∃ wa, wa = w.alloc (.cells #[.slice an ls.length cn, .slice ao l.length co] 40) := ⟨_, rfl⟩
  have hsz : wa.heap.size = w.heap.size + 1 := by rw [hwa]; simp
  have P0 : Hid (Blk2 wa w.heap.size 40 (.slice an ls.length cn) (.slice ao l.length co)) := by rw [hwa]; exact Blk2.new
  have HA : Hid (Below w.heap.size w wa) := by rw [hwa]; exact (Below.refl w.heap.size w).alloc (Nat.le_refl _) _
  have hlt0 : w.heap.size < wa.heap.size := by omega
  obtain ⟨c0, c1⟩ := P0.out.cells
  have HWA := Lib.hid hwa
  have HS := Lib.hid (szGraph_any ls l 1048576 _ wa (HST.out.below HA.out) (by omega))
  have HGV : Hid (∀ W, Below wa.heap.size wa W → GraphV W (.agg #[.slice an ls.length cn, .slice ao l.length co]) ls l) := fun W h => HST.out.below (bt HA.out h)
  have HMV1 : Hid (∀ W, Below wa.heap.size wa W → RowV W (.slice ma1 m1.length mc1) (I m1)) := fun W h => HM1.out.below (bt HA.out h)
  clear hwa
  by_cases hbig1 : 1048576 < m1.length
  · have hb1 : decide ((m1.length : Int) > 1048576) = true := by simp; omega
    clear HSP HIM HS
    go_enter Try.func5, Try.ntmps5
    go_wp2_with fail
    rw [← HWA.out]
    go_ret
    exact ⟨rfl, HA.out⟩
  have hbl1 : decide ((m1.length : Int) > 1048576) = false := by simp; omega
  have hml1 : m1.length ≤ 1048576 := by omega
  clear hbig1
  go_enter Try.func5, Try.ntmps5
  go_wp2_with fail
  rw [← HWA.out]
  refine HS.out.mono ?_
  rintro e w1 ⟨r, rfl, hr, hb1⟩
  have K1 := Lib.hid hb1
  clear hb1 HS c0 c1 hbl1
  obtain ⟨c0, c1⟩ := (P0.out.below K1.out hlt0).cells
  by_cases h0 : r < 0
  · clear hr
    go_wp2_with fail
    go_ret
    exact ⟨rfl, bt HA.out K1.out⟩
  have hl : ls.length + total ls + l.length ≤ 1100000 := by have := hr (by omega); omega
  have hl2 : ls.length + total ls + l.length ≤ 2000000 := by omega
  clear hr
  have HTO := Lib.hid (fun W (hb : GraphV W _ ls l) => toGraph_any ls l (.agg #[.slice an ls.length cn, .slice ao l.length co]) W hb hl2)
  have HTI1 := Lib.hid (fun W (hb : RowV W _ (I m1)) => toIntS_any m1 (.slice ma1 m1.length mc1) W hb (by omega))
  have HEI1 := Lib.hid (fun W x y (h1 : RowV W x (I m1)) (h2 : RowV W y (I m1)) => eqIntS_b h1 h2 (by omega) (decide_eq_true (rfl : m1 = m1)))
  have HEQ := Lib.hid (fun W x y (h1 : RowV W x (I R)) (h2 : RowV W y (I R)) => eqIntS_b h1 h2 (by omega) (decide_eq_true (rfl : R = R)))
  have hk2 : decide (((1 + R.length : Nat) : Int) < 0) = false := decide_eq_false (by omega)
  have hk3 : (((1 + R.length : Nat) : Int) != ((1 + R.length : Nat) : Int)) = false := by simp
  have HMI := Lib.hid (fun B u (W : World) (h : W.ownsRow B 3 1 u R.length (I R)) => markIntS_l (l := R) (k := 1) (i := (1 : Int)) (r := ((1 + R.length : Nat) : Int)) rfl (by omega) h (by omega) (by omega))
  have HHI := Lib.hid (fun u W (h : RowV W u (I (marks ((1 : Nat) : Int) R.length))) => heldIntS_l (k := 1) (n := R.length) (i := (1 : Int)) (r := ((1 + R.length : Nat) : Int)) rfl (by omega) h (by omega) (by omega))
  have HMG := Lib.hid (fun B u (W0 W : World) (h : GraphO B W0 u ls l) (hb : Below W0.heap.size W0 W) (hB : B ≤ W0.heap.size) => markGraph_any ls l 1 B u W0 W h hb hB (by omega) (by omega))
  have htg : totalG ls l ≤ 1100000 := by unfold totalG; omega
  have HMM1 := Lib.hid (fun B u (W : World) (h : W.ownsRow B 3 1 u m1.length (I m1)) => markIntS_l (l := m1) (k := 1 + totalG ls l) (i := ((1 + totalG ls l : Nat) : Int)) (r := ((1 + totalG ls l + m1.length : Nat) : Int)) rfl (by omega) h (by omega) (by omega))
  have hk1 : decide (((1 + totalG ls l + m1.length : Nat) : Int) < 0) = false := decide_eq_false (by omega)
  have hone : ((1 : Nat) : Int) = 1 := rfl
  rw [hone] at HMG HMI HHI
  clear hone htg
  generalize 1 + totalG ls l + m1.length = kk1 at *
  generalize 1 + totalG ls l = kk0 at *
  generalize 1 + R.length = k2 at *
  -- the reference's answer
  go_wp2_with fail
  refine (HTO.out w1 (HGV.out w1 K1.out)).mono ?_
  rintro e w2 ⟨v2, rfl, ho2', hb2⟩
  have K2 := Lib.hid (bt K1.out hb2)
  have HG2 := Lib.hid ho2'.view
  clear hb2 ho2' c0 c1
  go_wp2_with fail
  refine (HTI1.out w2 (HMV1.out w2 K2.out)).mono ?_
  rintro e p1 ⟨y1, rfl, hoy1, hbp1⟩
  have KP1 := Lib.hid (bt K2.out hbp1)
  have HGP1 := Lib.hid (HG2.out.below hbp1)
  have HYP1_1 := Lib.hid (RowV.of_own hoy1)
  clear hoy1 hbp1
  go_wp2_with fail
  refine (HSP.out p1 v2 y1 HGP1.out HYP1_1.out).mono ?_
  rintro e w3 ⟨v3, rfl, hw3, hb3⟩
  have K3 := Lib.hid (bt KP1.out hb3)
  have HW := Lib.hid hw3
  have sa3 := K3.out.size
  clear hb3 hw3
  obtain ⟨c0, c1⟩ := (P0.out.below K3.out hlt0).cells
  -- copies of the arguments
  go_wp2_with fail
  refine (HTO.out w3 (HGV.out w3 K3.out)).mono ?_
  rintro e w4 ⟨v4, rfl, ho4, hb4⟩
  have s34 := hb4.size
  have HO4 := Lib.hid ho4
  obtain ⟨b1, d1, b2, d2, rfl⟩ := ho4.slices
  obtain ⟨wb, hwb⟩ : ∃ wb, wb = w4.alloc (.cells #[.slice b1 ls.length d1, .slice b2 l.length d2] 26) := ⟨_, rfl⟩
  have X4 : Hid (Blk2 wb w4.heap.size 26 (.slice b1 ls.length d1) (.slice b2 l.length d2)) := by rw [hwb]; exact Blk2.new
  have hAB : Below w4.heap.size w4 wb := by rw [hwb]; exact (Below.refl w4.heap.size w4).alloc (Nat.le_refl _) _
  have hsb : wb.heap.size = w4.heap.size + 1 := by rw [hwb]; simp
  have E4 := Lib.hid hAB
  have D4 := Lib.hid (Below.refl wb.heap.size wb)
  have A4 := Lib.hid (bt hb4 hAB)
  have K4 := Lib.hid (bt (bt K3.out hb4) hAB)
  have HWB := Lib.hid hwb
  clear hb4 ho4 c0 c1 hwb hAB
  go_wp2_with fail
  rw [← HWB.out]

  refine (HTI1.out wb (HMV1.out wb K4.out)).mono ?_
  rintro e q1 ⟨x1, rfl, hox1, hbq1⟩
  have sq1 := hbq1.size
  have EQ1 := Lib.hid (bt E4.out hbq1)
  have DQ1 := Lib.hid (bt D4.out hbq1)
  have AQ1 := Lib.hid (bt A4.out hbq1)
  have KQ1 := Lib.hid (bt K4.out hbq1)
  have HX1_1 := Lib.hid hox1
  have hxl1 : ∀ b, x1.ownBlock = some b → b < q1.heap.size := fun b h => (hox1.lt b h).2
  clear hox1 hbq1
  obtain ⟨x00, x01⟩ := (X4.out.below DQ1.out (by omega)).cells
  -- the program's answer
  go_wp2_with fail
  refine (HIM.out q1 _ x1 (HO4.out.view.below EQ1.out) (RowV.of_own HX1_1.out)).mono ?_
  rintro e w6 ⟨v6, rfl, hg6, hb6⟩
  have s6 := hb6.size
  have E6 := Lib.hid (bt EQ1.out hb6)
  have D6 := Lib.hid (bt DQ1.out hb6)
  have A6 := Lib.hid (bt AQ1.out hb6)
  have K6 := Lib.hid (bt KQ1.out hb6)
  have HX1_6 := Lib.hid (own_below HX1_1.out hb6)
  have HG6 := Lib.hid hg6
  obtain ⟨g1, e1, rfl⟩ := own_slice hg6
  obtain ⟨g3, e3, hv3⟩ := own_slice HW.out
  subst hv3
  clear hb6 x00 x01 hg6
  go_wp2_with fail
  refine (HEQ.out w6 _ _ (RowV.of_own HG6.out) (RowV.of_own (own_below HW.out A6.out))).mono ?_
  rintro e w7 ⟨rfl, hb7⟩
  have s7 := hb7.size
  have E7 := Lib.hid (bt E6.out hb7)
  have D7 := Lib.hid (bt D6.out hb7)
  have A7 := Lib.hid (bt A6.out hb7)
  have K7 := Lib.hid (bt K6.out hb7)
  have HG7 := Lib.hid (own_below HG6.out hb7)
  have HX1_7 := Lib.hid (own_below HX1_6.out hb7)
  clear hb7 HG6
  have hlt7 : w.heap.size < w7.heap.size := by omega
  have hlt8 : w4.heap.size < w7.heap.size := by omega
  have PD : Hid (Blk2 w7.drew w.heap.size 40 (.slice an ls.length cn) (.slice ao l.length co)) := P0.out.below (Below.drew K7.out) hlt0
  have XD : Hid (Blk2 w7.drew w4.heap.size 26 (.slice b1 ls.length d1) (.slice b2 l.length d2)) := X4.out.below (Below.drew D7.out) (by omega)
  have ks := And.intro PD.out.cells XD.out.cells
  have HX7 : Hid (GraphV w7.drew (.agg #[.slice b1 ls.length d1, .slice b2 l.length d2]) ls l) := HO4.out.view.below (Below.drew E7.out)
  have HST7 : Hid (GraphV w7.drew (.agg #[.slice an ls.length cn, .slice ao l.length co]) ls l) := HGV.out w7.drew (Below.drew K7.out)
  have HE := Lib.hid (fun W v5 (hb : GraphV W _ ls l) (hb5 : GraphV W v5 ls l) => eqGraph_any ls ls l l (.agg #[.slice b1 ls.length d1, .slice b2 l.length d2]) v5 W hb hb5 hl2)
  rw [sameG_self] at HE
  go_wp2_with fail
  -- the copy is as it was
  go_region_held3 (fun w' => (w'.cell? ⟨w.heap.size, 0, none⟩ = some (.slice an ls.length cn) ∧ w'.cell? ⟨w.heap.size, 1, none⟩ = some (.slice ao l.length co)) ∧ (w'.cell? ⟨w4.heap.size, 0, none⟩ = some (.slice b1 ls.length d1) ∧ w'.cell? ⟨w4.heap.size, 1, none⟩ = some (.slice b2 l.length d2))) (first | exact ks)
    (first
      | (go_at_call 31; refine (HTO.out _ (by exact HST7.out)).mono ?_; rintro e w7b ⟨v7, rfl, ho7, hb7⟩
         have ks := And.intro (PD.out.below hb7 hlt7).cells (XD.out.below hb7 hlt8).cells
         have HO7 := Lib.hid ho7.view
         have HXB := Lib.hid (GraphV.below (by exact HX7.out) hb7)
         have C7 := Lib.hid hb7
         clear ho7 hb7)
      | (go_at_call 34; refine (HE.out _ _ (by exact HXB.out) (by exact HO7.out)).mono ?_; rintro e w8 ⟨rfl, hb8⟩
         have C8 := Lib.hid (bt C7.out hb8)
         have ks := And.intro (PD.out.below C8.out hlt7).cells (XD.out.below C8.out hlt8).cells
         clear hb8))
  all_goals
    have s8 : w7.heap.size ≤ w8.heap.size := C8.out.size
    have E8 := Lib.hid (bt (Below.drew E7.out) C8.out)
    have D8 := Lib.hid (bt (Below.drew D7.out) C8.out)
    have A8 := Lib.hid (bt (Below.drew A7.out) C8.out)
    have K8 := Lib.hid (bt (Below.drew K7.out) C8.out)
    have HX1_8 := Lib.hid (own_below (w := w7.drew) (show w7.drew.ownsRow wb.heap.size 3 1 _ _ _ from HX1_7.out) C8.out)
    have HG8 := Lib.hid (own_below (w := w7.drew) (show w7.drew.ownsRow q1.heap.size 3 1 _ _ _ from HG7.out) C8.out)
    clear ks PD XD HX7 HST7 HO7 HXB C7 C8 HG7
    go_wp2_with fail
    refine (HTI1.out w8 (HMV1.out w8 K8.out)).mono ?_
    rintro e r1 ⟨z1, rfl, hoz1, hbr1⟩
    have sr1 := hbr1.size
    have ER1 := Lib.hid (bt E8.out hbr1)
    have DR1 := Lib.hid (bt D8.out hbr1)
    have AR1 := Lib.hid (bt A8.out hbr1)
    have KR1 := Lib.hid (bt K8.out hbr1)
    have HZ1 := Lib.hid (RowV.of_own hoz1)
    have HX1_R1 := Lib.hid (own_below HX1_8.out hbr1)
    have HGR1 := Lib.hid (own_below HG8.out hbr1)
    clear hoz1 hbr1
    go_wp2_with fail
    refine (HEI1.out r1 _ _ (RowV.of_own HX1_R1.out) HZ1.out).mono ?_
    rintro e s1 ⟨rfl, hbs1⟩
    have ss1 := hbs1.size
    have ES1 := Lib.hid (bt ER1.out hbs1)
    have DS1 := Lib.hid (bt DR1.out hbs1)
    have AS1 := Lib.hid (bt AR1.out hbs1)
    have KS1 := Lib.hid (bt KR1.out hbs1)
    have HX1_S1 := Lib.hid (own_below HX1_R1.out hbs1)
    have HGS1 := Lib.hid (own_below HGR1.out hbs1)
    clear hbs1 HZ1
    obtain ⟨x0', x1'⟩ := (X4.out.below DS1.out (by omega)).cells
    -- marks in the copies
    go_wp2_with fail
    refine (HMG.out w3.heap.size _ w4 s1 HO4.out ES1.out s34).mono ?_
    rintro e w9 ⟨rfl, _, hg9⟩
    have s9 := hg9.below.size
    have A9 := Lib.hid (AS1.out.trans hg9.below)
    have K9 := Lib.hid (KS1.out.trans (hg9.below.mono sa3))
    have HG9 := Lib.hid (own_only HGS1.out hg9 (by omega))
    have HX1_9 := Lib.hid (own_only HX1_S1.out hg9 (by omega))
    clear hg9 x0' x1'
    go_wp2_with fail
    refine (HMM1.out wb.heap.size _ w9 HX1_9.out).mono ?_
    rintro e t1 ⟨rfl, _, hgt1⟩
    have hbt1 := below_own HX1_9.out hgt1 (by omega)
    have st1 := hgt1.size
    have AT1 := Lib.hid (A9.out.trans (hbt1.mono (by omega)))
    have KT1 := Lib.hid (K9.out.trans (hbt1.mono (by omega)))
    have HGT1 := Lib.hid (own_apartI HG9.out hgt1 (fun b h1 h2 => by have := hxl1 b h1; have := (HG9.out.lt b h2).1; omega))
    clear hgt1 hbt1
    go_wp2_with fail
    refine (HEQ.out t1 _ _ (RowV.of_own HGT1.out) (RowV.of_own (own_below HW.out AT1.out))).mono ?_
    rintro e w10 ⟨rfl, hb10⟩
    have s10 := hb10.size
    have A10 := Lib.hid (bt AT1.out hb10)
    have K10 := Lib.hid (bt KT1.out hb10)
    have HG10 := Lib.hid (own_below HGT1.out hb10)
    clear hb10
    -- marks in the answer
    go_wp2_with fail
    refine (HMI.out q1.heap.size _ w10 HG10.out).mono ?_
    rintro e w11 ⟨rfl, ho11, hg11⟩
    have hbb := below_own HG10.out hg11 (by omega)
    have s11 := hg11.size
    have A11 := Lib.hid (A10.out.trans (hbb.mono (by omega)))
    have K11 := Lib.hid (K10.out.trans (hbb.mono (by omega)))
    have HM11 := Lib.hid ho11
    clear ho11 hg11 hbb HG10
    go_wp2_with fail
    refine (HHI.out _ w11 (RowV.of_own HM11.out)).mono ?_
    rintro e w12 ⟨rfl, hb12⟩
    have A12 := Lib.hid (bt A11.out hb12)
    have K12 := Lib.hid (bt K11.out hb12)
    have HM12 := Lib.hid (own_below HM11.out hb12)
    clear hb12 HM11
    obtain ⟨c0, c1⟩ := (P0.out.below K12.out hlt0).cells
    -- asked again
    go_wp2_with fail
    refine (HTO.out w12 (HGV.out w12 K12.out)).mono ?_
    rintro e w13 ⟨v13, rfl, ho13, hb13⟩
    have A13 := Lib.hid (bt A12.out hb13)
    have K13 := Lib.hid (bt K12.out hb13)
    have HM13 := Lib.hid (own_below HM12.out hb13)
    have HG13 := Lib.hid ho13.view
    clear hb13 ho13 c0 c1 HM12
    go_wp2_with fail
    refine (HTI1.out w13 (HMV1.out w13 K13.out)).mono ?_
    rintro e z1 ⟨yz1, rfl, hoz1, hbz1⟩
    have AZ1 := Lib.hid (bt A13.out hbz1)
    have KZ1 := Lib.hid (bt K13.out hbz1)
    have HMZ1 := Lib.hid (own_below HM13.out hbz1)
    have HGZ1 := Lib.hid (HG13.out.below hbz1)
    have HYZ1_1 := Lib.hid (RowV.of_own hoz1)
    clear hoz1 hbz1
    go_wp2_with fail
    refine (HIM.out z1 v13 yz1 HGZ1.out HYZ1_1.out).mono ?_
    rintro e w14 ⟨v14, rfl, ho14, hb14⟩
    have A14 := Lib.hid (bt AZ1.out hb14)
    have K14 := Lib.hid (bt KZ1.out hb14)
    have HM14 := Lib.hid (own_below HMZ1.out hb14)
    have HV14 := Lib.hid (RowV.of_own ho14)
    obtain ⟨g14, e14, rfl⟩ := own_slice ho14
    clear hb14 ho14
    go_wp2_with fail
    refine (HEQ.out w14 _ _ HV14.out (RowV.of_own (own_below HW.out A14.out))).mono ?_
    rintro e w15 ⟨rfl, hb15⟩
    have K15 := Lib.hid (bt K14.out hb15)
    have HM15 := Lib.hid (own_below HM14.out hb15)
    clear hb15 HM14 HV14
    go_wp2_with fail
    refine (HHI.out _ w15 (RowV.of_own HM15.out)).mono ?_
    rintro e w16 ⟨rfl, hb16⟩
    have K16 := Lib.hid (bt K15.out hb16)
    clear hb16
    go_wp2_with fail
    go_ret
    exact ⟨rfl, bt HA.out K16.out⟩

set_option maxRecDepth 20000 in
set_option maxHeartbeats 16000000 in
theorem exactSlackOf_of (ls : List (List Int)) (l : List Int) (m1 : List Int) (R : List Int) (ok : Bool) (v u1 : Value) (w : World) (hst : GraphV w v ls l) (hm1 : RowV w u1 (I m1)) (hL : R.length ≤ 1000000)
    (hsp : ∀ W u y1, GraphV W u ls l → RowV W y1 (I m1) → Calls Try.prog 23 #[u, y1] W ((ListOk R ok W)))
    (him : ∀ W u y1, GraphV W u ls l → RowV W y1 (I m1) → Calls Try.prog 22 #[u, y1] W ((ListOk R ok W))) :
    Calls Try.prog 7 #[v, u1] w (YesZ w) := by
  have HST := Lib.hid hst
  have HSP := Lib.hid hsp
  have HIM := Lib.hid him
  clear hsp him
  obtain ⟨nv, ov, rfl, h1, h2⟩ := hst
  obtain ⟨an, cn, rfl, hn1, hn2, _⟩ := h1.lists
  obtain ⟨ao, co, rfl, ho1, ho2, _⟩ := h2.ints
  clear h1 h2
  have HM1 := Lib.hid hm1
  obtain ⟨ma1, mc1, rfl, hma1, hmb1, _⟩ := hm1.ints
  clear hm1
  unfold maxLen at hn2 ho2 hmb1
  have hne : (ok != ok) = false := by cases ok <;> rfl
  obtain ⟨wa, hwa⟩ : ∃ wa, wa = w.alloc (.cells #[.slice an ls.length cn, .slice ao l.length co] 40) := ⟨_, rfl⟩
  have hsz : wa.heap.size = w.heap.size + 1 := by rw [hwa]; simp
  have P0 : Hid (Blk2 wa w.heap.size 40 (.slice an ls.length cn) (.slice ao l.length co)) := by rw [hwa]; exact Blk2.new
  have HA : Hid (Below w.heap.size w wa) := by rw [hwa]; exact (Below.refl w.heap.size w).alloc (Nat.le_refl _) _
  have hlt0 : w.heap.size < wa.heap.size := by omega
  obtain ⟨c0, c1⟩ := P0.out.cells
  have HWA := Lib.hid hwa
  have HS := Lib.hid (szGraph_any ls l 1048576 _ wa (HST.out.below HA.out) (by omega))
  have HGV : Hid (∀ W, Below wa.heap.size wa W → GraphV W (.agg #[.slice an ls.length cn, .slice ao l.length co]) ls l) := fun W h => HST.out.below (bt HA.out h)
  have HMV1 : Hid (∀ W, Below wa.heap.size wa W → RowV W (.slice ma1 m1.length mc1) (I m1)) := fun W h => HM1.out.below (bt HA.out h)
  clear hwa
  by_cases hbig1 : 1048576 < m1.length
  · have hb1 : decide ((m1.length : Int) > 1048576) = true := by simp; omega
    clear HSP HIM HS
    go_enter Try.func7, Try.ntmps7
    go_wp2_with fail
    rw [← HWA.out]
    go_ret
    exact ⟨rfl, HA.out⟩
  have hbl1 : decide ((m1.length : Int) > 1048576) = false := by simp; omega
  have hml1 : m1.length ≤ 1048576 := by omega
  clear hbig1
  go_enter Try.func7, Try.ntmps7
  go_wp2_with fail
  rw [← HWA.out]
  refine HS.out.mono ?_
  rintro e w1 ⟨r, rfl, hr, hb1⟩
  have K1 := Lib.hid hb1
  clear hb1 HS c0 c1 hbl1
  obtain ⟨c0, c1⟩ := (P0.out.below K1.out hlt0).cells
  by_cases h0 : r < 0
  · clear hr
    go_wp2_with fail
    go_ret
    exact ⟨rfl, bt HA.out K1.out⟩
  have hl : ls.length + total ls + l.length ≤ 1100000 := by have := hr (by omega); omega
  have hl2 : ls.length + total ls + l.length ≤ 2000000 := by omega
  clear hr
  have HTO := Lib.hid (fun W (hb : GraphV W _ ls l) => toGraph_any ls l (.agg #[.slice an ls.length cn, .slice ao l.length co]) W hb hl2)
  have HTI1 := Lib.hid (fun W (hb : RowV W _ (I m1)) => toIntS_any m1 (.slice ma1 m1.length mc1) W hb (by omega))
  have HEI1 := Lib.hid (fun W x y (h1 : RowV W x (I m1)) (h2 : RowV W y (I m1)) => eqIntS_b h1 h2 (by omega) (decide_eq_true (rfl : m1 = m1)))
  have HEQ := Lib.hid (fun W x y (h1 : RowV W x (I R)) (h2 : RowV W y (I R)) => eqIntS_b h1 h2 (by omega) (decide_eq_true (rfl : R = R)))
  have hk2 : decide (((1 + R.length : Nat) : Int) < 0) = false := decide_eq_false (by omega)
  have hk3 : (((1 + R.length : Nat) : Int) != ((1 + R.length : Nat) : Int)) = false := by simp
  have HMI := Lib.hid (fun B u (W : World) (h : W.ownsRow B 3 1 u R.length (I R)) => markIntS_l (l := R) (k := 1) (i := (1 : Int)) (r := ((1 + R.length : Nat) : Int)) rfl (by omega) h (by omega) (by omega))
  have HHI := Lib.hid (fun u W (h : RowV W u (I (marks ((1 : Nat) : Int) R.length))) => heldIntS_l (k := 1) (n := R.length) (i := (1 : Int)) (r := ((1 + R.length : Nat) : Int)) rfl (by omega) h (by omega) (by omega))
  have HMG := Lib.hid (fun B u (W0 W : World) (h : GraphO B W0 u ls l) (hb : Below W0.heap.size W0 W) (hB : B ≤ W0.heap.size) => markGraph_any ls l 1 B u W0 W h hb hB (by omega) (by omega))
  have htg : totalG ls l ≤ 1100000 := by unfold totalG; omega
  have HMM1 := Lib.hid (fun B u (W : World) (h : W.ownsRow B 3 1 u m1.length (I m1)) => markIntS_l (l := m1) (k := 1 + totalG ls l) (i := ((1 + totalG ls l : Nat) : Int)) (r := ((1 + totalG ls l + m1.length : Nat) : Int)) rfl (by omega) h (by omega) (by omega))
  have hk1 : decide (((1 + totalG ls l + m1.length : Nat) : Int) < 0) = false := decide_eq_false (by omega)
  have hone : ((1 : Nat) : Int) = 1 := rfl
  rw [hone] at HMG HMI HHI
  clear hone htg
  generalize 1 + totalG ls l + m1.length = kk1 at *
  generalize 1 + totalG ls l = kk0 at *
  generalize 1 + R.length = k2 at *
  -- the reference's answer
  go_wp2_with fail
  refine (HTO.out w1 (HGV.out w1 K1.out)).mono ?_
  rintro e w2 ⟨v2, rfl, ho2', hb2⟩
  have K2 := Lib.hid (bt K1.out hb2)
  have HG2 := Lib.hid ho2'.view
  clear hb2 ho2' c0 c1
  go_wp2_with fail
  refine (HTI1.out w2 (HMV1.out w2 K2.out)).mono ?_
  rintro e p1 ⟨y1, rfl, hoy1, hbp1⟩
  have KP1 := Lib.hid (bt K2.out hbp1)
  have HGP1 := Lib.hid (HG2.out.below hbp1)
  have HYP1_1 := Lib.hid (RowV.of_own hoy1)
  clear hoy1 hbp1
  go_wp2_with fail
  refine (HSP.out p1 v2 y1 HGP1.out HYP1_1.out).mono ?_
  rintro e w3 ⟨v3, rfl, hw3, hb3⟩
  have K3 := Lib.hid (bt KP1.out hb3)
  have HW := Lib.hid hw3
  have sa3 := K3.out.size
  clear hb3 hw3
  obtain ⟨c0, c1⟩ := (P0.out.below K3.out hlt0).cells
  -- copies of the arguments
  go_wp2_with fail
  refine (HTO.out w3 (HGV.out w3 K3.out)).mono ?_
  rintro e w4 ⟨v4, rfl, ho4, hb4⟩
  have s34 := hb4.size
  have HO4 := Lib.hid ho4
  obtain ⟨b1, d1, b2, d2, rfl⟩ := ho4.slices
  obtain ⟨wb, hwb⟩ : ∃ wb, wb = w4.alloc (.cells #[.slice b1 ls.length d1, .slice b2 l.length d2] 26) := ⟨_, rfl⟩
  have X4 : Hid (Blk2 wb w4.heap.size 26 (.slice b1 ls.length d1) (.slice b2 l.length d2)) := by rw [hwb]; exact Blk2.new
  have hAB : Below w4.heap.size w4 wb := by rw [hwb]; exact (Below.refl w4.heap.size w4).alloc (Nat.le_refl _) _
  have hsb : wb.heap.size = w4.heap.size + 1 := by rw [hwb]; simp
  have E4 := Lib.hid hAB
  have D4 := Lib.hid (Below.refl wb.heap.size wb)
  have A4 := Lib.hid (bt hb4 hAB)
  have K4 := Lib.hid (bt (bt K3.out hb4) hAB)
  have HWB := Lib.hid hwb
  clear hb4 ho4 c0 c1 hwb hAB
  go_wp2_with fail
  rw [← HWB.out]

  refine (HTI1.out wb (HMV1.out wb K4.out)).mono ?_
  rintro e q1 ⟨x1, rfl, hox1, hbq1⟩
  have sq1 := hbq1.size
  have EQ1 := Lib.hid (bt E4.out hbq1)
  have DQ1 := Lib.hid (bt D4.out hbq1)
  have AQ1 := Lib.hid (bt A4.out hbq1)
  have KQ1 := Lib.hid (bt K4.out hbq1)
  have HX1_1 := Lib.hid hox1
  have hxl1 : ∀ b, x1.ownBlock = some b → b < q1.heap.size := fun b h => (hox1.lt b h).2
  clear hox1 hbq1
  obtain ⟨x00, x01⟩ := (X4.out.below DQ1.out (by omega)).cells
  -- the program's answer
  go_wp2_with fail
  refine (HIM.out q1 _ x1 (HO4.out.view.below EQ1.out) (RowV.of_own HX1_1.out)).mono ?_
  rintro e w6 ⟨v6, rfl, hg6, hb6⟩
  have s6 := hb6.size
  have E6 := Lib.hid (bt EQ1.out hb6)
  have D6 := Lib.hid (bt DQ1.out hb6)
  have A6 := Lib.hid (bt AQ1.out hb6)
  have K6 := Lib.hid (bt KQ1.out hb6)
  have HX1_6 := Lib.hid (own_below HX1_1.out hb6)
  have HG6 := Lib.hid hg6
  obtain ⟨g1, e1, rfl⟩ := own_slice hg6
  obtain ⟨g3, e3, hv3⟩ := own_slice HW.out
  subst hv3
  clear hb6 x00 x01 hg6
  go_wp2_with fail
  refine (HEQ.out w6 _ _ (RowV.of_own HG6.out) (RowV.of_own (own_below HW.out A6.out))).mono ?_
  rintro e w7 ⟨rfl, hb7⟩
  have s7 := hb7.size
  have E7 := Lib.hid (bt E6.out hb7)
  have D7 := Lib.hid (bt D6.out hb7)
  have A7 := Lib.hid (bt A6.out hb7)
  have K7 := Lib.hid (bt K6.out hb7)
  have HG7 := Lib.hid (own_below HG6.out hb7)
  have HX1_7 := Lib.hid (own_below HX1_6.out hb7)
  clear hb7 HG6
  have hlt7 : w.heap.size < w7.heap.size := by omega
  have hlt8 : w4.heap.size < w7.heap.size := by omega
  have PD : Hid (Blk2 w7.drew w.heap.size 40 (.slice an ls.length cn) (.slice ao l.length co)) := P0.out.below (Below.drew K7.out) hlt0
  have XD : Hid (Blk2 w7.drew w4.heap.size 26 (.slice b1 ls.length d1) (.slice b2 l.length d2)) := X4.out.below (Below.drew D7.out) (by omega)
  have ks := And.intro PD.out.cells XD.out.cells
  have HX7 : Hid (GraphV w7.drew (.agg #[.slice b1 ls.length d1, .slice b2 l.length d2]) ls l) := HO4.out.view.below (Below.drew E7.out)
  have HST7 : Hid (GraphV w7.drew (.agg #[.slice an ls.length cn, .slice ao l.length co]) ls l) := HGV.out w7.drew (Below.drew K7.out)
  have HE := Lib.hid (fun W v5 (hb : GraphV W _ ls l) (hb5 : GraphV W v5 ls l) => eqGraph_any ls ls l l (.agg #[.slice b1 ls.length d1, .slice b2 l.length d2]) v5 W hb hb5 hl2)
  rw [sameG_self] at HE
  go_wp2_with fail
  -- the copy is as it was
  go_region_held3 (fun w' => (w'.cell? ⟨w.heap.size, 0, none⟩ = some (.slice an ls.length cn) ∧ w'.cell? ⟨w.heap.size, 1, none⟩ = some (.slice ao l.length co)) ∧ (w'.cell? ⟨w4.heap.size, 0, none⟩ = some (.slice b1 ls.length d1) ∧ w'.cell? ⟨w4.heap.size, 1, none⟩ = some (.slice b2 l.length d2))) (first | exact ks)
    (first
      | (go_at_call 31; refine (HTO.out _ (by exact HST7.out)).mono ?_; rintro e w7b ⟨v7, rfl, ho7, hb7⟩
         have ks := And.intro (PD.out.below hb7 hlt7).cells (XD.out.below hb7 hlt8).cells
         have HO7 := Lib.hid ho7.view
         have HXB := Lib.hid (GraphV.below (by exact HX7.out) hb7)
         have C7 := Lib.hid hb7
         clear ho7 hb7)
      | (go_at_call 34; refine (HE.out _ _ (by exact HXB.out) (by exact HO7.out)).mono ?_; rintro e w8 ⟨rfl, hb8⟩
         have C8 := Lib.hid (bt C7.out hb8)
         have ks := And.intro (PD.out.below C8.out hlt7).cells (XD.out.below C8.out hlt8).cells
         clear hb8))
  all_goals
    have s8 : w7.heap.size ≤ w8.heap.size := C8.out.size
    have E8 := Lib.hid (bt (Below.drew E7.out) C8.out)
    have D8 := Lib.hid (bt (Below.drew D7.out) C8.out)
    have A8 := Lib.hid (bt (Below.drew A7.out) C8.out)
    have K8 := Lib.hid (bt (Below.drew K7.out) C8.out)
    have HX1_8 := Lib.hid (own_below (w := w7.drew) (show w7.drew.ownsRow wb.heap.size 3 1 _ _ _ from HX1_7.out) C8.out)
    have HG8 := Lib.hid (own_below (w := w7.drew) (show w7.drew.ownsRow q1.heap.size 3 1 _ _ _ from HG7.out) C8.out)
    clear ks PD XD HX7 HST7 HO7 HXB C7 C8 HG7
    go_wp2_with fail
    refine (HTI1.out w8 (HMV1.out w8 K8.out)).mono ?_
    rintro e r1 ⟨z1, rfl, hoz1, hbr1⟩
    have sr1 := hbr1.size
    have ER1 := Lib.hid (bt E8.out hbr1)
    have DR1 := Lib.hid (bt D8.out hbr1)
    have AR1 := Lib.hid (bt A8.out hbr1)
    have KR1 := Lib.hid (bt K8.out hbr1)
    have HZ1 := Lib.hid (RowV.of_own hoz1)
    have HX1_R1 := Lib.hid (own_below HX1_8.out hbr1)
    have HGR1 := Lib.hid (own_below HG8.out hbr1)
    clear hoz1 hbr1
    go_wp2_with fail
    refine (HEI1.out r1 _ _ (RowV.of_own HX1_R1.out) HZ1.out).mono ?_
    rintro e s1 ⟨rfl, hbs1⟩
    have ss1 := hbs1.size
    have ES1 := Lib.hid (bt ER1.out hbs1)
    have DS1 := Lib.hid (bt DR1.out hbs1)
    have AS1 := Lib.hid (bt AR1.out hbs1)
    have KS1 := Lib.hid (bt KR1.out hbs1)
    have HX1_S1 := Lib.hid (own_below HX1_R1.out hbs1)
    have HGS1 := Lib.hid (own_below HGR1.out hbs1)
    clear hbs1 HZ1
    obtain ⟨x0', x1'⟩ := (X4.out.below DS1.out (by omega)).cells
    -- marks in the copies
    go_wp2_with fail
    refine (HMG.out w3.heap.size _ w4 s1 HO4.out ES1.out s34).mono ?_
    rintro e w9 ⟨rfl, _, hg9⟩
    have s9 := hg9.below.size
    have A9 := Lib.hid (AS1.out.trans hg9.below)
    have K9 := Lib.hid (KS1.out.trans (hg9.below.mono sa3))
    have HG9 := Lib.hid (own_only HGS1.out hg9 (by omega))
    have HX1_9 := Lib.hid (own_only HX1_S1.out hg9 (by omega))
    clear hg9 x0' x1'
    go_wp2_with fail
    refine (HMM1.out wb.heap.size _ w9 HX1_9.out).mono ?_
    rintro e t1 ⟨rfl, _, hgt1⟩
    have hbt1 := below_own HX1_9.out hgt1 (by omega)
    have st1 := hgt1.size
    have AT1 := Lib.hid (A9.out.trans (hbt1.mono (by omega)))
    have KT1 := Lib.hid (K9.out.trans (hbt1.mono (by omega)))
    have HGT1 := Lib.hid (own_apartI HG9.out hgt1 (fun b h1 h2 => by have := hxl1 b h1; have := (HG9.out.lt b h2).1; omega))
    clear hgt1 hbt1
    go_wp2_with fail
    refine (HEQ.out t1 _ _ (RowV.of_own HGT1.out) (RowV.of_own (own_below HW.out AT1.out))).mono ?_
    rintro e w10 ⟨rfl, hb10⟩
    have s10 := hb10.size
    have A10 := Lib.hid (bt AT1.out hb10)
    have K10 := Lib.hid (bt KT1.out hb10)
    have HG10 := Lib.hid (own_below HGT1.out hb10)
    clear hb10
    -- marks in the answer
    go_wp2_with fail
    refine (HMI.out q1.heap.size _ w10 HG10.out).mono ?_
    rintro e w11 ⟨rfl, ho11, hg11⟩
    have hbb := below_own HG10.out hg11 (by omega)
    have s11 := hg11.size
    have A11 := Lib.hid (A10.out.trans (hbb.mono (by omega)))
    have K11 := Lib.hid (K10.out.trans (hbb.mono (by omega)))
    have HM11 := Lib.hid ho11
    clear ho11 hg11 hbb HG10
    go_wp2_with fail
    refine (HHI.out _ w11 (RowV.of_own HM11.out)).mono ?_
    rintro e w12 ⟨rfl, hb12⟩
    have A12 := Lib.hid (bt A11.out hb12)
    have K12 := Lib.hid (bt K11.out hb12)
    have HM12 := Lib.hid (own_below HM11.out hb12)
    clear hb12 HM11
    obtain ⟨c0, c1⟩ := (P0.out.below K12.out hlt0).cells
    -- asked again
    go_wp2_with fail
    refine (HTO.out w12 (HGV.out w12 K12.out)).mono ?_
    rintro e w13 ⟨v13, rfl, ho13, hb13⟩
    have A13 := Lib.hid (bt A12.out hb13)
    have K13 := Lib.hid (bt K12.out hb13)
    have HM13 := Lib.hid (own_below HM12.out hb13)
    have HG13 := Lib.hid ho13.view
    clear hb13 ho13 c0 c1 HM12
    go_wp2_with fail
    refine (HTI1.out w13 (HMV1.out w13 K13.out)).mono ?_
    rintro e z1 ⟨yz1, rfl, hoz1, hbz1⟩
    have AZ1 := Lib.hid (bt A13.out hbz1)
    have KZ1 := Lib.hid (bt K13.out hbz1)
    have HMZ1 := Lib.hid (own_below HM13.out hbz1)
    have HGZ1 := Lib.hid (HG13.out.below hbz1)
    have HYZ1_1 := Lib.hid (RowV.of_own hoz1)
    clear hoz1 hbz1
    go_wp2_with fail
    refine (HIM.out z1 v13 yz1 HGZ1.out HYZ1_1.out).mono ?_
    rintro e w14 ⟨v14, rfl, ho14, hb14⟩
    have A14 := Lib.hid (bt AZ1.out hb14)
    have K14 := Lib.hid (bt KZ1.out hb14)
    have HM14 := Lib.hid (own_below HMZ1.out hb14)
    have HV14 := Lib.hid (RowV.of_own ho14)
    obtain ⟨g14, e14, rfl⟩ := own_slice ho14
    clear hb14 ho14
    go_wp2_with fail
    refine (HEQ.out w14 _ _ HV14.out (RowV.of_own (own_below HW.out A14.out))).mono ?_
    rintro e w15 ⟨rfl, hb15⟩
    have K15 := Lib.hid (bt K14.out hb15)
    have HM15 := Lib.hid (own_below HM14.out hb15)
    clear hb15 HM14 HV14
    go_wp2_with fail
    refine (HHI.out _ w15 (RowV.of_own HM15.out)).mono ?_
    rintro e w16 ⟨rfl, hb16⟩
    have K16 := Lib.hid (bt K15.out hb16)
    clear hb16
    go_wp2_with fail
    go_ret
    exact ⟨rfl, bt HA.out K16.out⟩

set_option maxRecDepth 20000 in
set_option maxHeartbeats 16000000 in
theorem exactTailsOf_of (ls : List (List Int)) (l : List Int) (m1 : List Int) (R : List Int) (ok : Bool) (v u1 : Value) (w : World) (hst : GraphV w v ls l) (hm1 : RowV w u1 (I m1)) (hL : R.length ≤ 1000000)
    (hsp : ∀ W u y1, GraphV W u ls l → RowV W y1 (I m1) → Calls Try.prog 20 #[u, y1] W ((ListOk R ok W)))
    (him : ∀ W u y1, GraphV W u ls l → RowV W y1 (I m1) → Calls Try.prog 19 #[u, y1] W ((ListOk R ok W))) :
    Calls Try.prog 10 #[v, u1] w (YesZ w) := by
  have HST := Lib.hid hst
  have HSP := Lib.hid hsp
  have HIM := Lib.hid him
  clear hsp him
  obtain ⟨nv, ov, rfl, h1, h2⟩ := hst
  obtain ⟨an, cn, rfl, hn1, hn2, _⟩ := h1.lists
  obtain ⟨ao, co, rfl, ho1, ho2, _⟩ := h2.ints
  clear h1 h2
  have HM1 := Lib.hid hm1
  obtain ⟨ma1, mc1, rfl, hma1, hmb1, _⟩ := hm1.ints
  clear hm1
  unfold maxLen at hn2 ho2 hmb1
  have hne : (ok != ok) = false := by cases ok <;> rfl
  obtain ⟨wa, hwa⟩ : ∃ wa, wa = w.alloc (.cells #[.slice an ls.length cn, .slice ao l.length co] 40) := ⟨_, rfl⟩
  have hsz : wa.heap.size = w.heap.size + 1 := by rw [hwa]; simp
  have P0 : Hid (Blk2 wa w.heap.size 40 (.slice an ls.length cn) (.slice ao l.length co)) := by rw [hwa]; exact Blk2.new
  have HA : Hid (Below w.heap.size w wa) := by rw [hwa]; exact (Below.refl w.heap.size w).alloc (Nat.le_refl _) _
  have hlt0 : w.heap.size < wa.heap.size := by omega
  obtain ⟨c0, c1⟩ := P0.out.cells
  have HWA := Lib.hid hwa
  have HS := Lib.hid (szGraph_any ls l 1048576 _ wa (HST.out.below HA.out) (by omega))
  have HGV : Hid (∀ W, Below wa.heap.size wa W → GraphV W (.agg #[.slice an ls.length cn, .slice ao l.length co]) ls l) := fun W h => HST.out.below (bt HA.out h)
  have HMV1 : Hid (∀ W, Below wa.heap.size wa W → RowV W (.slice ma1 m1.length mc1) (I m1)) := fun W h => HM1.out.below (bt HA.out h)
  clear hwa
  by_cases hbig1 : 1048576 < m1.length
  · have hb1 : decide ((m1.length : Int) > 1048576) = true := by simp; omega
    clear HSP HIM HS
    go_enter Try.func10, Try.ntmps10
    go_wp2_with fail
    rw [← HWA.out]
    go_ret
    exact ⟨rfl, HA.out⟩
  have hbl1 : decide ((m1.length : Int) > 1048576) = false := by simp; omega
  have hml1 : m1.length ≤ 1048576 := by omega
  clear hbig1
  go_enter Try.func10, Try.ntmps10
  go_wp2_with fail
  rw [← HWA.out]
  refine HS.out.mono ?_
  rintro e w1 ⟨r, rfl, hr, hb1⟩
  have K1 := Lib.hid hb1
  clear hb1 HS c0 c1 hbl1
  obtain ⟨c0, c1⟩ := (P0.out.below K1.out hlt0).cells
  by_cases h0 : r < 0
  · clear hr
    go_wp2_with fail
    go_ret
    exact ⟨rfl, bt HA.out K1.out⟩
  have hl : ls.length + total ls + l.length ≤ 1100000 := by have := hr (by omega); omega
  have hl2 : ls.length + total ls + l.length ≤ 2000000 := by omega
  clear hr
  have HTO := Lib.hid (fun W (hb : GraphV W _ ls l) => toGraph_any ls l (.agg #[.slice an ls.length cn, .slice ao l.length co]) W hb hl2)
  have HTI1 := Lib.hid (fun W (hb : RowV W _ (I m1)) => toIntS_any m1 (.slice ma1 m1.length mc1) W hb (by omega))
  have HEI1 := Lib.hid (fun W x y (h1 : RowV W x (I m1)) (h2 : RowV W y (I m1)) => eqIntS_b h1 h2 (by omega) (decide_eq_true (rfl : m1 = m1)))
  have HEQ := Lib.hid (fun W x y (h1 : RowV W x (I R)) (h2 : RowV W y (I R)) => eqIntS_b h1 h2 (by omega) (decide_eq_true (rfl : R = R)))
  have hk2 : decide (((1 + R.length : Nat) : Int) < 0) = false := decide_eq_false (by omega)
  have hk3 : (((1 + R.length : Nat) : Int) != ((1 + R.length : Nat) : Int)) = false := by simp
  have HMI := Lib.hid (fun B u (W : World) (h : W.ownsRow B 3 1 u R.length (I R)) => markIntS_l (l := R) (k := 1) (i := (1 : Int)) (r := ((1 + R.length : Nat) : Int)) rfl (by omega) h (by omega) (by omega))
  have HHI := Lib.hid (fun u W (h : RowV W u (I (marks ((1 : Nat) : Int) R.length))) => heldIntS_l (k := 1) (n := R.length) (i := (1 : Int)) (r := ((1 + R.length : Nat) : Int)) rfl (by omega) h (by omega) (by omega))
  have HMG := Lib.hid (fun B u (W0 W : World) (h : GraphO B W0 u ls l) (hb : Below W0.heap.size W0 W) (hB : B ≤ W0.heap.size) => markGraph_any ls l 1 B u W0 W h hb hB (by omega) (by omega))
  have htg : totalG ls l ≤ 1100000 := by unfold totalG; omega
  have HMM1 := Lib.hid (fun B u (W : World) (h : W.ownsRow B 3 1 u m1.length (I m1)) => markIntS_l (l := m1) (k := 1 + totalG ls l) (i := ((1 + totalG ls l : Nat) : Int)) (r := ((1 + totalG ls l + m1.length : Nat) : Int)) rfl (by omega) h (by omega) (by omega))
  have hk1 : decide (((1 + totalG ls l + m1.length : Nat) : Int) < 0) = false := decide_eq_false (by omega)
  have hone : ((1 : Nat) : Int) = 1 := rfl
  rw [hone] at HMG HMI HHI
  clear hone htg
  generalize 1 + totalG ls l + m1.length = kk1 at *
  generalize 1 + totalG ls l = kk0 at *
  generalize 1 + R.length = k2 at *
  -- the reference's answer
  go_wp2_with fail
  refine (HTO.out w1 (HGV.out w1 K1.out)).mono ?_
  rintro e w2 ⟨v2, rfl, ho2', hb2⟩
  have K2 := Lib.hid (bt K1.out hb2)
  have HG2 := Lib.hid ho2'.view
  clear hb2 ho2' c0 c1
  go_wp2_with fail
  refine (HTI1.out w2 (HMV1.out w2 K2.out)).mono ?_
  rintro e p1 ⟨y1, rfl, hoy1, hbp1⟩
  have KP1 := Lib.hid (bt K2.out hbp1)
  have HGP1 := Lib.hid (HG2.out.below hbp1)
  have HYP1_1 := Lib.hid (RowV.of_own hoy1)
  clear hoy1 hbp1
  go_wp2_with fail
  refine (HSP.out p1 v2 y1 HGP1.out HYP1_1.out).mono ?_
  rintro e w3 ⟨v3, rfl, hw3, hb3⟩
  have K3 := Lib.hid (bt KP1.out hb3)
  have HW := Lib.hid hw3
  have sa3 := K3.out.size
  clear hb3 hw3
  obtain ⟨c0, c1⟩ := (P0.out.below K3.out hlt0).cells
  -- copies of the arguments
  go_wp2_with fail
  refine (HTO.out w3 (HGV.out w3 K3.out)).mono ?_
  rintro e w4 ⟨v4, rfl, ho4, hb4⟩
  have s34 := hb4.size
  have HO4 := Lib.hid ho4
  obtain ⟨b1, d1, b2, d2, rfl⟩ := ho4.slices
  obtain ⟨wb, hwb⟩ : ∃ wb, wb = w4.alloc (.cells #[.slice b1 ls.length d1, .slice b2 l.length d2] 26) := ⟨_, rfl⟩
  have X4 : Hid (Blk2 wb w4.heap.size 26 (.slice b1 ls.length d1) (.slice b2 l.length d2)) := by rw [hwb]; exact Blk2.new
  have hAB : Below w4.heap.size w4 wb := by rw [hwb]; exact (Below.refl w4.heap.size w4).alloc (Nat.le_refl _) _
  have hsb : wb.heap.size = w4.heap.size + 1 := by rw [hwb]; simp
  have E4 := Lib.hid hAB
  have D4 := Lib.hid (Below.refl wb.heap.size wb)
  have A4 := Lib.hid (bt hb4 hAB)
  have K4 := Lib.hid (bt (bt K3.out hb4) hAB)
  have HWB := Lib.hid hwb
  clear hb4 ho4 c0 c1 hwb hAB
  go_wp2_with fail
  rw [← HWB.out]

  refine (HTI1.out wb (HMV1.out wb K4.out)).mono ?_
  rintro e q1 ⟨x1, rfl, hox1, hbq1⟩
  have sq1 := hbq1.size
  have EQ1 := Lib.hid (bt E4.out hbq1)
  have DQ1 := Lib.hid (bt D4.out hbq1)
  have AQ1 := Lib.hid (bt A4.out hbq1)
  have KQ1 := Lib.hid (bt K4.out hbq1)
  have HX1_1 := Lib.hid hox1
  have hxl1 : ∀ b, x1.ownBlock = some b → b < q1.heap.size := fun b h => (hox1.lt b h).2
  clear hox1 hbq1
  obtain ⟨x00, x01⟩ := (X4.out.below DQ1.out (by omega)).cells
  -- the program's answer
  go_wp2_with fail
  refine (HIM.out q1 _ x1 (HO4.out.view.below EQ1.out) (RowV.of_own HX1_1.out)).mono ?_
  rintro e w6 ⟨v6, rfl, hg6, hb6⟩
  have s6 := hb6.size
  have E6 := Lib.hid (bt EQ1.out hb6)
  have D6 := Lib.hid (bt DQ1.out hb6)
  have A6 := Lib.hid (bt AQ1.out hb6)
  have K6 := Lib.hid (bt KQ1.out hb6)
  have HX1_6 := Lib.hid (own_below HX1_1.out hb6)
  have HG6 := Lib.hid hg6
  obtain ⟨g1, e1, rfl⟩ := own_slice hg6
  obtain ⟨g3, e3, hv3⟩ := own_slice HW.out
  subst hv3
  clear hb6 x00 x01 hg6
  go_wp2_with fail
  refine (HEQ.out w6 _ _ (RowV.of_own HG6.out) (RowV.of_own (own_below HW.out A6.out))).mono ?_
  rintro e w7 ⟨rfl, hb7⟩
  have s7 := hb7.size
  have E7 := Lib.hid (bt E6.out hb7)
  have D7 := Lib.hid (bt D6.out hb7)
  have A7 := Lib.hid (bt A6.out hb7)
  have K7 := Lib.hid (bt K6.out hb7)
  have HG7 := Lib.hid (own_below HG6.out hb7)
  have HX1_7 := Lib.hid (own_below HX1_6.out hb7)
  clear hb7 HG6
  have hlt7 : w.heap.size < w7.heap.size := by omega
  have hlt8 : w4.heap.size < w7.heap.size := by omega
  have PD : Hid (Blk2 w7.drew w.heap.size 40 (.slice an ls.length cn) (.slice ao l.length co)) := P0.out.below (Below.drew K7.out) hlt0
  have XD : Hid (Blk2 w7.drew w4.heap.size 26 (.slice b1 ls.length d1) (.slice b2 l.length d2)) := X4.out.below (Below.drew D7.out) (by omega)
  have ks := And.intro PD.out.cells XD.out.cells
  have HX7 : Hid (GraphV w7.drew (.agg #[.slice b1 ls.length d1, .slice b2 l.length d2]) ls l) := HO4.out.view.below (Below.drew E7.out)
  have HST7 : Hid (GraphV w7.drew (.agg #[.slice an ls.length cn, .slice ao l.length co]) ls l) := HGV.out w7.drew (Below.drew K7.out)
  have HE := Lib.hid (fun W v5 (hb : GraphV W _ ls l) (hb5 : GraphV W v5 ls l) => eqGraph_any ls ls l l (.agg #[.slice b1 ls.length d1, .slice b2 l.length d2]) v5 W hb hb5 hl2)
  rw [sameG_self] at HE
  go_wp2_with fail
  -- the copy is as it was
  go_region_held3 (fun w' => (w'.cell? ⟨w.heap.size, 0, none⟩ = some (.slice an ls.length cn) ∧ w'.cell? ⟨w.heap.size, 1, none⟩ = some (.slice ao l.length co)) ∧ (w'.cell? ⟨w4.heap.size, 0, none⟩ = some (.slice b1 ls.length d1) ∧ w'.cell? ⟨w4.heap.size, 1, none⟩ = some (.slice b2 l.length d2))) (first | exact ks)
    (first
      | (go_at_call 31; refine (HTO.out _ (by exact HST7.out)).mono ?_; rintro e w7b ⟨v7, rfl, ho7, hb7⟩
         have ks := And.intro (PD.out.below hb7 hlt7).cells (XD.out.below hb7 hlt8).cells
         have HO7 := Lib.hid ho7.view
         have HXB := Lib.hid (GraphV.below (by exact HX7.out) hb7)
         have C7 := Lib.hid hb7
         clear ho7 hb7)
      | (go_at_call 34; refine (HE.out _ _ (by exact HXB.out) (by exact HO7.out)).mono ?_; rintro e w8 ⟨rfl, hb8⟩
         have C8 := Lib.hid (bt C7.out hb8)
         have ks := And.intro (PD.out.below C8.out hlt7).cells (XD.out.below C8.out hlt8).cells
         clear hb8))
  all_goals
    have s8 : w7.heap.size ≤ w8.heap.size := C8.out.size
    have E8 := Lib.hid (bt (Below.drew E7.out) C8.out)
    have D8 := Lib.hid (bt (Below.drew D7.out) C8.out)
    have A8 := Lib.hid (bt (Below.drew A7.out) C8.out)
    have K8 := Lib.hid (bt (Below.drew K7.out) C8.out)
    have HX1_8 := Lib.hid (own_below (w := w7.drew) (show w7.drew.ownsRow wb.heap.size 3 1 _ _ _ from HX1_7.out) C8.out)
    have HG8 := Lib.hid (own_below (w := w7.drew) (show w7.drew.ownsRow q1.heap.size 3 1 _ _ _ from HG7.out) C8.out)
    clear ks PD XD HX7 HST7 HO7 HXB C7 C8 HG7
    go_wp2_with fail
    refine (HTI1.out w8 (HMV1.out w8 K8.out)).mono ?_
    rintro e r1 ⟨z1, rfl, hoz1, hbr1⟩
    have sr1 := hbr1.size
    have ER1 := Lib.hid (bt E8.out hbr1)
    have DR1 := Lib.hid (bt D8.out hbr1)
    have AR1 := Lib.hid (bt A8.out hbr1)
    have KR1 := Lib.hid (bt K8.out hbr1)
    have HZ1 := Lib.hid (RowV.of_own hoz1)
    have HX1_R1 := Lib.hid (own_below HX1_8.out hbr1)
    have HGR1 := Lib.hid (own_below HG8.out hbr1)
    clear hoz1 hbr1
    go_wp2_with fail
    refine (HEI1.out r1 _ _ (RowV.of_own HX1_R1.out) HZ1.out).mono ?_
    rintro e s1 ⟨rfl, hbs1⟩
    have ss1 := hbs1.size
    have ES1 := Lib.hid (bt ER1.out hbs1)
    have DS1 := Lib.hid (bt DR1.out hbs1)
    have AS1 := Lib.hid (bt AR1.out hbs1)
    have KS1 := Lib.hid (bt KR1.out hbs1)
    have HX1_S1 := Lib.hid (own_below HX1_R1.out hbs1)
    have HGS1 := Lib.hid (own_below HGR1.out hbs1)
    clear hbs1 HZ1
    obtain ⟨x0', x1'⟩ := (X4.out.below DS1.out (by omega)).cells
    -- marks in the copies
    go_wp2_with fail
    refine (HMG.out w3.heap.size _ w4 s1 HO4.out ES1.out s34).mono ?_
    rintro e w9 ⟨rfl, _, hg9⟩
    have s9 := hg9.below.size
    have A9 := Lib.hid (AS1.out.trans hg9.below)
    have K9 := Lib.hid (KS1.out.trans (hg9.below.mono sa3))
    have HG9 := Lib.hid (own_only HGS1.out hg9 (by omega))
    have HX1_9 := Lib.hid (own_only HX1_S1.out hg9 (by omega))
    clear hg9 x0' x1'
    go_wp2_with fail
    refine (HMM1.out wb.heap.size _ w9 HX1_9.out).mono ?_
    rintro e t1 ⟨rfl, _, hgt1⟩
    have hbt1 := below_own HX1_9.out hgt1 (by omega)
    have st1 := hgt1.size
    have AT1 := Lib.hid (A9.out.trans (hbt1.mono (by omega)))
    have KT1 := Lib.hid (K9.out.trans (hbt1.mono (by omega)))
    have HGT1 := Lib.hid (own_apartI HG9.out hgt1 (fun b h1 h2 => by have := hxl1 b h1; have := (HG9.out.lt b h2).1; omega))
    clear hgt1 hbt1
    go_wp2_with fail
    refine (HEQ.out t1 _ _ (RowV.of_own HGT1.out) (RowV.of_own (own_below HW.out AT1.out))).mono ?_
    rintro e w10 ⟨rfl, hb10⟩
    have s10 := hb10.size
    have A10 := Lib.hid (bt AT1.out hb10)
    have K10 := Lib.hid (bt KT1.out hb10)
    have HG10 := Lib.hid (own_below HGT1.out hb10)
    clear hb10
    -- marks in the answer
    go_wp2_with fail
    refine (HMI.out q1.heap.size _ w10 HG10.out).mono ?_
    rintro e w11 ⟨rfl, ho11, hg11⟩
    have hbb := below_own HG10.out hg11 (by omega)
    have s11 := hg11.size
    have A11 := Lib.hid (A10.out.trans (hbb.mono (by omega)))
    have K11 := Lib.hid (K10.out.trans (hbb.mono (by omega)))
    have HM11 := Lib.hid ho11
    clear ho11 hg11 hbb HG10
    go_wp2_with fail
    refine (HHI.out _ w11 (RowV.of_own HM11.out)).mono ?_
    rintro e w12 ⟨rfl, hb12⟩
    have A12 := Lib.hid (bt A11.out hb12)
    have K12 := Lib.hid (bt K11.out hb12)
    have HM12 := Lib.hid (own_below HM11.out hb12)
    clear hb12 HM11
    obtain ⟨c0, c1⟩ := (P0.out.below K12.out hlt0).cells
    -- asked again
    go_wp2_with fail
    refine (HTO.out w12 (HGV.out w12 K12.out)).mono ?_
    rintro e w13 ⟨v13, rfl, ho13, hb13⟩
    have A13 := Lib.hid (bt A12.out hb13)
    have K13 := Lib.hid (bt K12.out hb13)
    have HM13 := Lib.hid (own_below HM12.out hb13)
    have HG13 := Lib.hid ho13.view
    clear hb13 ho13 c0 c1 HM12
    go_wp2_with fail
    refine (HTI1.out w13 (HMV1.out w13 K13.out)).mono ?_
    rintro e z1 ⟨yz1, rfl, hoz1, hbz1⟩
    have AZ1 := Lib.hid (bt A13.out hbz1)
    have KZ1 := Lib.hid (bt K13.out hbz1)
    have HMZ1 := Lib.hid (own_below HM13.out hbz1)
    have HGZ1 := Lib.hid (HG13.out.below hbz1)
    have HYZ1_1 := Lib.hid (RowV.of_own hoz1)
    clear hoz1 hbz1
    go_wp2_with fail
    refine (HIM.out z1 v13 yz1 HGZ1.out HYZ1_1.out).mono ?_
    rintro e w14 ⟨v14, rfl, ho14, hb14⟩
    have A14 := Lib.hid (bt AZ1.out hb14)
    have K14 := Lib.hid (bt KZ1.out hb14)
    have HM14 := Lib.hid (own_below HMZ1.out hb14)
    have HV14 := Lib.hid (RowV.of_own ho14)
    obtain ⟨g14, e14, rfl⟩ := own_slice ho14
    clear hb14 ho14
    go_wp2_with fail
    refine (HEQ.out w14 _ _ HV14.out (RowV.of_own (own_below HW.out A14.out))).mono ?_
    rintro e w15 ⟨rfl, hb15⟩
    have K15 := Lib.hid (bt K14.out hb15)
    have HM15 := Lib.hid (own_below HM14.out hb15)
    clear hb15 HM14 HV14
    go_wp2_with fail
    refine (HHI.out _ w15 (RowV.of_own HM15.out)).mono ?_
    rintro e w16 ⟨rfl, hb16⟩
    have K16 := Lib.hid (bt K15.out hb16)
    clear hb16
    go_wp2_with fail
    go_ret
    exact ⟨rfl, bt HA.out K16.out⟩

set_option maxRecDepth 20000 in
set_option maxHeartbeats 16000000 in
theorem exactLatestEnds_of (ls : List (List Int)) (l : List Int) (m1 : List Int) (R : List Int) (n : Int) (ok : Bool) (v u1 : Value) (w : World) (hst : GraphV w v ls l) (hm1 : RowV w u1 (I m1)) (hL : R.length ≤ 1000000)
    (hsp : ∀ W u y1, GraphV W u ls l → RowV W y1 (I m1) → Calls Try.prog 25 #[u, y1] W ((ListNOk R n ok W)))
    (him : ∀ W u y1, GraphV W u ls l → RowV W y1 (I m1) → Calls Try.prog 24 #[u, y1] W ((ListNOk R n ok W))) :
    Calls Try.prog 6 #[v, u1] w (YesZ w) := by
  have HST := Lib.hid hst
  have HSP := Lib.hid hsp
  have HIM := Lib.hid him
  clear hsp him
  obtain ⟨nv, ov, rfl, h1, h2⟩ := hst
  obtain ⟨an, cn, rfl, hn1, hn2, _⟩ := h1.lists
  obtain ⟨ao, co, rfl, ho1, ho2, _⟩ := h2.ints
  clear h1 h2
  have HM1 := Lib.hid hm1
  obtain ⟨ma1, mc1, rfl, hma1, hmb1, _⟩ := hm1.ints
  clear hm1
  unfold maxLen at hn2 ho2 hmb1
  have hne : (ok != ok) = false := by cases ok <;> rfl
  have hnn : (n != n) = false := by simp
  obtain ⟨wa, hwa⟩ : ∃ wa, wa = w.alloc (.cells #[.slice an ls.length cn, .slice ao l.length co] 40) := ⟨_, rfl⟩
  have hsz : wa.heap.size = w.heap.size + 1 := by rw [hwa]; simp
  have P0 : Hid (Blk2 wa w.heap.size 40 (.slice an ls.length cn) (.slice ao l.length co)) := by rw [hwa]; exact Blk2.new
  have HA : Hid (Below w.heap.size w wa) := by rw [hwa]; exact (Below.refl w.heap.size w).alloc (Nat.le_refl _) _
  have hlt0 : w.heap.size < wa.heap.size := by omega
  obtain ⟨c0, c1⟩ := P0.out.cells
  have HWA := Lib.hid hwa
  have HS := Lib.hid (szGraph_any ls l 1048576 _ wa (HST.out.below HA.out) (by omega))
  have HGV : Hid (∀ W, Below wa.heap.size wa W → GraphV W (.agg #[.slice an ls.length cn, .slice ao l.length co]) ls l) := fun W h => HST.out.below (bt HA.out h)
  have HMV1 : Hid (∀ W, Below wa.heap.size wa W → RowV W (.slice ma1 m1.length mc1) (I m1)) := fun W h => HM1.out.below (bt HA.out h)
  clear hwa
  by_cases hbig1 : 1048576 < m1.length
  · have hb1 : decide ((m1.length : Int) > 1048576) = true := by simp; omega
    clear HSP HIM HS
    go_enter Try.func6, Try.ntmps6
    go_wp2_with fail
    rw [← HWA.out]
    go_ret
    exact ⟨rfl, HA.out⟩
  have hbl1 : decide ((m1.length : Int) > 1048576) = false := by simp; omega
  have hml1 : m1.length ≤ 1048576 := by omega
  clear hbig1
  go_enter Try.func6, Try.ntmps6
  go_wp2_with fail
  rw [← HWA.out]
  refine HS.out.mono ?_
  rintro e w1 ⟨r, rfl, hr, hb1⟩
  have K1 := Lib.hid hb1
  clear hb1 HS c0 c1 hbl1
  obtain ⟨c0, c1⟩ := (P0.out.below K1.out hlt0).cells
  by_cases h0 : r < 0
  · clear hr
    go_wp2_with fail
    go_ret
    exact ⟨rfl, bt HA.out K1.out⟩
  have hl : ls.length + total ls + l.length ≤ 1100000 := by have := hr (by omega); omega
  have hl2 : ls.length + total ls + l.length ≤ 2000000 := by omega
  clear hr
  have HTO := Lib.hid (fun W (hb : GraphV W _ ls l) => toGraph_any ls l (.agg #[.slice an ls.length cn, .slice ao l.length co]) W hb hl2)
  have HTI1 := Lib.hid (fun W (hb : RowV W _ (I m1)) => toIntS_any m1 (.slice ma1 m1.length mc1) W hb (by omega))
  have HEI1 := Lib.hid (fun W x y (h1 : RowV W x (I m1)) (h2 : RowV W y (I m1)) => eqIntS_b h1 h2 (by omega) (decide_eq_true (rfl : m1 = m1)))
  have HEQ := Lib.hid (fun W x y (h1 : RowV W x (I R)) (h2 : RowV W y (I R)) => eqIntS_b h1 h2 (by omega) (decide_eq_true (rfl : R = R)))
  have hk2 : decide (((1 + R.length : Nat) : Int) < 0) = false := decide_eq_false (by omega)
  have hk3 : (((1 + R.length : Nat) : Int) != ((1 + R.length : Nat) : Int)) = false := by simp
  have HMI := Lib.hid (fun B u (W : World) (h : W.ownsRow B 3 1 u R.length (I R)) => markIntS_l (l := R) (k := 1) (i := (1 : Int)) (r := ((1 + R.length : Nat) : Int)) rfl (by omega) h (by omega) (by omega))
  have HHI := Lib.hid (fun u W (h : RowV W u (I (marks ((1 : Nat) : Int) R.length))) => heldIntS_l (k := 1) (n := R.length) (i := (1 : Int)) (r := ((1 + R.length : Nat) : Int)) rfl (by omega) h (by omega) (by omega))
  have HMG := Lib.hid (fun B u (W0 W : World) (h : GraphO B W0 u ls l) (hb : Below W0.heap.size W0 W) (hB : B ≤ W0.heap.size) => markGraph_any ls l 1 B u W0 W h hb hB (by omega) (by omega))
  have htg : totalG ls l ≤ 1100000 := by unfold totalG; omega
  have HMM1 := Lib.hid (fun B u (W : World) (h : W.ownsRow B 3 1 u m1.length (I m1)) => markIntS_l (l := m1) (k := 1 + totalG ls l) (i := ((1 + totalG ls l : Nat) : Int)) (r := ((1 + totalG ls l + m1.length : Nat) : Int)) rfl (by omega) h (by omega) (by omega))
  have hk1 : decide (((1 + totalG ls l + m1.length : Nat) : Int) < 0) = false := decide_eq_false (by omega)
  have hone : ((1 : Nat) : Int) = 1 := rfl
  rw [hone] at HMG HMI HHI
  clear hone htg
  generalize 1 + totalG ls l + m1.length = kk1 at *
  generalize 1 + totalG ls l = kk0 at *
  generalize 1 + R.length = k2 at *
  -- the reference's answer
  go_wp2_with fail
  refine (HTO.out w1 (HGV.out w1 K1.out)).mono ?_
  rintro e w2 ⟨v2, rfl, ho2', hb2⟩
  have K2 := Lib.hid (bt K1.out hb2)
  have HG2 := Lib.hid ho2'.view
  clear hb2 ho2' c0 c1
  go_wp2_with fail
  refine (HTI1.out w2 (HMV1.out w2 K2.out)).mono ?_
  rintro e p1 ⟨y1, rfl, hoy1, hbp1⟩
  have KP1 := Lib.hid (bt K2.out hbp1)
  have HGP1 := Lib.hid (HG2.out.below hbp1)
  have HYP1_1 := Lib.hid (RowV.of_own hoy1)
  clear hoy1 hbp1
  go_wp2_with fail
  refine (HSP.out p1 v2 y1 HGP1.out HYP1_1.out).mono ?_
  rintro e w3 ⟨v3, rfl, hw3, hb3⟩
  have K3 := Lib.hid (bt KP1.out hb3)
  have HW := Lib.hid hw3
  have sa3 := K3.out.size
  clear hb3 hw3
  obtain ⟨c0, c1⟩ := (P0.out.below K3.out hlt0).cells
  -- copies of the arguments
  go_wp2_with fail
  refine (HTO.out w3 (HGV.out w3 K3.out)).mono ?_
  rintro e w4 ⟨v4, rfl, ho4, hb4⟩
  have s34 := hb4.size
  have HO4 := Lib.hid ho4
  obtain ⟨b1, d1, b2, d2, rfl⟩ := ho4.slices
  obtain ⟨wb, hwb⟩ : ∃ wb, wb = w4.alloc (.cells #[.slice b1 ls.length d1, .slice b2 l.length d2] 26) := ⟨_, rfl⟩
  have X4 : Hid (Blk2 wb w4.heap.size 26 (.slice b1 ls.length d1) (.slice b2 l.length d2)) := by rw [hwb]; exact Blk2.new
  have hAB : Below w4.heap.size w4 wb := by rw [hwb]; exact (Below.refl w4.heap.size w4).alloc (Nat.le_refl _) _
  have hsb : wb.heap.size = w4.heap.size + 1 := by rw [hwb]; simp
  have E4 := Lib.hid hAB
  have D4 := Lib.hid (Below.refl wb.heap.size wb)
  have A4 := Lib.hid (bt hb4 hAB)
  have K4 := Lib.hid (bt (bt K3.out hb4) hAB)
  have HWB := Lib.hid hwb
  clear hb4 ho4 c0 c1 hwb hAB
  go_wp2_with fail
  rw [← HWB.out]

  refine (HTI1.out wb (HMV1.out wb K4.out)).mono ?_
  rintro e q1 ⟨x1, rfl, hox1, hbq1⟩
  have sq1 := hbq1.size
  have EQ1 := Lib.hid (bt E4.out hbq1)
  have DQ1 := Lib.hid (bt D4.out hbq1)
  have AQ1 := Lib.hid (bt A4.out hbq1)
  have KQ1 := Lib.hid (bt K4.out hbq1)
  have HX1_1 := Lib.hid hox1
  have hxl1 : ∀ b, x1.ownBlock = some b → b < q1.heap.size := fun b h => (hox1.lt b h).2
  clear hox1 hbq1
  obtain ⟨x00, x01⟩ := (X4.out.below DQ1.out (by omega)).cells
  -- the program's answer
  go_wp2_with fail
  refine (HIM.out q1 _ x1 (HO4.out.view.below EQ1.out) (RowV.of_own HX1_1.out)).mono ?_
  rintro e w6 ⟨v6, rfl, hg6, hb6⟩
  have s6 := hb6.size
  have E6 := Lib.hid (bt EQ1.out hb6)
  have D6 := Lib.hid (bt DQ1.out hb6)
  have A6 := Lib.hid (bt AQ1.out hb6)
  have K6 := Lib.hid (bt KQ1.out hb6)
  have HX1_6 := Lib.hid (own_below HX1_1.out hb6)
  have HG6 := Lib.hid hg6
  obtain ⟨g1, e1, rfl⟩ := own_slice hg6
  obtain ⟨g3, e3, hv3⟩ := own_slice HW.out
  subst hv3
  clear hb6 x00 x01 hg6
  go_wp2_with fail
  refine (HEQ.out w6 _ _ (RowV.of_own HG6.out) (RowV.of_own (own_below HW.out A6.out))).mono ?_
  rintro e w7 ⟨rfl, hb7⟩
  have s7 := hb7.size
  have E7 := Lib.hid (bt E6.out hb7)
  have D7 := Lib.hid (bt D6.out hb7)
  have A7 := Lib.hid (bt A6.out hb7)
  have K7 := Lib.hid (bt K6.out hb7)
  have HG7 := Lib.hid (own_below HG6.out hb7)
  have HX1_7 := Lib.hid (own_below HX1_6.out hb7)
  clear hb7 HG6
  have hlt7 : w.heap.size < w7.heap.size := by omega
  have hlt8 : w4.heap.size < w7.heap.size := by omega
  have PD : Hid (Blk2 w7.drew w.heap.size 40 (.slice an ls.length cn) (.slice ao l.length co)) := P0.out.below (Below.drew K7.out) hlt0
  have XD : Hid (Blk2 w7.drew w4.heap.size 26 (.slice b1 ls.length d1) (.slice b2 l.length d2)) := X4.out.below (Below.drew D7.out) (by omega)
  have ks := And.intro PD.out.cells XD.out.cells
  have HX7 : Hid (GraphV w7.drew (.agg #[.slice b1 ls.length d1, .slice b2 l.length d2]) ls l) := HO4.out.view.below (Below.drew E7.out)
  have HST7 : Hid (GraphV w7.drew (.agg #[.slice an ls.length cn, .slice ao l.length co]) ls l) := HGV.out w7.drew (Below.drew K7.out)
  have HE := Lib.hid (fun W v5 (hb : GraphV W _ ls l) (hb5 : GraphV W v5 ls l) => eqGraph_any ls ls l l (.agg #[.slice b1 ls.length d1, .slice b2 l.length d2]) v5 W hb hb5 hl2)
  rw [sameG_self] at HE
  go_wp2_with fail
  -- the copy is as it was
  go_region_held3 (fun w' => (w'.cell? ⟨w.heap.size, 0, none⟩ = some (.slice an ls.length cn) ∧ w'.cell? ⟨w.heap.size, 1, none⟩ = some (.slice ao l.length co)) ∧ (w'.cell? ⟨w4.heap.size, 0, none⟩ = some (.slice b1 ls.length d1) ∧ w'.cell? ⟨w4.heap.size, 1, none⟩ = some (.slice b2 l.length d2))) (first | exact ks)
    (first
      | (go_at_call 31; refine (HTO.out _ (by exact HST7.out)).mono ?_; rintro e w7b ⟨v7, rfl, ho7, hb7⟩
         have ks := And.intro (PD.out.below hb7 hlt7).cells (XD.out.below hb7 hlt8).cells
         have HO7 := Lib.hid ho7.view
         have HXB := Lib.hid (GraphV.below (by exact HX7.out) hb7)
         have C7 := Lib.hid hb7
         clear ho7 hb7)
      | (go_at_call 34; refine (HE.out _ _ (by exact HXB.out) (by exact HO7.out)).mono ?_; rintro e w8 ⟨rfl, hb8⟩
         have C8 := Lib.hid (bt C7.out hb8)
         have ks := And.intro (PD.out.below C8.out hlt7).cells (XD.out.below C8.out hlt8).cells
         clear hb8))
  all_goals
    have s8 : w7.heap.size ≤ w8.heap.size := C8.out.size
    have E8 := Lib.hid (bt (Below.drew E7.out) C8.out)
    have D8 := Lib.hid (bt (Below.drew D7.out) C8.out)
    have A8 := Lib.hid (bt (Below.drew A7.out) C8.out)
    have K8 := Lib.hid (bt (Below.drew K7.out) C8.out)
    have HX1_8 := Lib.hid (own_below (w := w7.drew) (show w7.drew.ownsRow wb.heap.size 3 1 _ _ _ from HX1_7.out) C8.out)
    have HG8 := Lib.hid (own_below (w := w7.drew) (show w7.drew.ownsRow q1.heap.size 3 1 _ _ _ from HG7.out) C8.out)
    clear ks PD XD HX7 HST7 HO7 HXB C7 C8 HG7
    go_wp2_with fail
    refine (HTI1.out w8 (HMV1.out w8 K8.out)).mono ?_
    rintro e r1 ⟨z1, rfl, hoz1, hbr1⟩
    have sr1 := hbr1.size
    have ER1 := Lib.hid (bt E8.out hbr1)
    have DR1 := Lib.hid (bt D8.out hbr1)
    have AR1 := Lib.hid (bt A8.out hbr1)
    have KR1 := Lib.hid (bt K8.out hbr1)
    have HZ1 := Lib.hid (RowV.of_own hoz1)
    have HX1_R1 := Lib.hid (own_below HX1_8.out hbr1)
    have HGR1 := Lib.hid (own_below HG8.out hbr1)
    clear hoz1 hbr1
    go_wp2_with fail
    refine (HEI1.out r1 _ _ (RowV.of_own HX1_R1.out) HZ1.out).mono ?_
    rintro e s1 ⟨rfl, hbs1⟩
    have ss1 := hbs1.size
    have ES1 := Lib.hid (bt ER1.out hbs1)
    have DS1 := Lib.hid (bt DR1.out hbs1)
    have AS1 := Lib.hid (bt AR1.out hbs1)
    have KS1 := Lib.hid (bt KR1.out hbs1)
    have HX1_S1 := Lib.hid (own_below HX1_R1.out hbs1)
    have HGS1 := Lib.hid (own_below HGR1.out hbs1)
    clear hbs1 HZ1
    obtain ⟨x0', x1'⟩ := (X4.out.below DS1.out (by omega)).cells
    -- marks in the copies
    go_wp2_with fail
    refine (HMG.out w3.heap.size _ w4 s1 HO4.out ES1.out s34).mono ?_
    rintro e w9 ⟨rfl, _, hg9⟩
    have s9 := hg9.below.size
    have A9 := Lib.hid (AS1.out.trans hg9.below)
    have K9 := Lib.hid (KS1.out.trans (hg9.below.mono sa3))
    have HG9 := Lib.hid (own_only HGS1.out hg9 (by omega))
    have HX1_9 := Lib.hid (own_only HX1_S1.out hg9 (by omega))
    clear hg9 x0' x1'
    go_wp2_with fail
    refine (HMM1.out wb.heap.size _ w9 HX1_9.out).mono ?_
    rintro e t1 ⟨rfl, _, hgt1⟩
    have hbt1 := below_own HX1_9.out hgt1 (by omega)
    have st1 := hgt1.size
    have AT1 := Lib.hid (A9.out.trans (hbt1.mono (by omega)))
    have KT1 := Lib.hid (K9.out.trans (hbt1.mono (by omega)))
    have HGT1 := Lib.hid (own_apartI HG9.out hgt1 (fun b h1 h2 => by have := hxl1 b h1; have := (HG9.out.lt b h2).1; omega))
    clear hgt1 hbt1
    go_wp2_with fail
    refine (HEQ.out t1 _ _ (RowV.of_own HGT1.out) (RowV.of_own (own_below HW.out AT1.out))).mono ?_
    rintro e w10 ⟨rfl, hb10⟩
    have s10 := hb10.size
    have A10 := Lib.hid (bt AT1.out hb10)
    have K10 := Lib.hid (bt KT1.out hb10)
    have HG10 := Lib.hid (own_below HGT1.out hb10)
    clear hb10
    -- marks in the answer
    go_wp2_with fail
    refine (HMI.out q1.heap.size _ w10 HG10.out).mono ?_
    rintro e w11 ⟨rfl, ho11, hg11⟩
    have hbb := below_own HG10.out hg11 (by omega)
    have s11 := hg11.size
    have A11 := Lib.hid (A10.out.trans (hbb.mono (by omega)))
    have K11 := Lib.hid (K10.out.trans (hbb.mono (by omega)))
    have HM11 := Lib.hid ho11
    clear ho11 hg11 hbb HG10
    go_wp2_with fail
    refine (HHI.out _ w11 (RowV.of_own HM11.out)).mono ?_
    rintro e w12 ⟨rfl, hb12⟩
    have A12 := Lib.hid (bt A11.out hb12)
    have K12 := Lib.hid (bt K11.out hb12)
    have HM12 := Lib.hid (own_below HM11.out hb12)
    clear hb12 HM11
    obtain ⟨c0, c1⟩ := (P0.out.below K12.out hlt0).cells
    -- asked again
    go_wp2_with fail
    refine (HTO.out w12 (HGV.out w12 K12.out)).mono ?_
    rintro e w13 ⟨v13, rfl, ho13, hb13⟩
    have A13 := Lib.hid (bt A12.out hb13)
    have K13 := Lib.hid (bt K12.out hb13)
    have HM13 := Lib.hid (own_below HM12.out hb13)
    have HG13 := Lib.hid ho13.view
    clear hb13 ho13 c0 c1 HM12
    go_wp2_with fail
    refine (HTI1.out w13 (HMV1.out w13 K13.out)).mono ?_
    rintro e z1 ⟨yz1, rfl, hoz1, hbz1⟩
    have AZ1 := Lib.hid (bt A13.out hbz1)
    have KZ1 := Lib.hid (bt K13.out hbz1)
    have HMZ1 := Lib.hid (own_below HM13.out hbz1)
    have HGZ1 := Lib.hid (HG13.out.below hbz1)
    have HYZ1_1 := Lib.hid (RowV.of_own hoz1)
    clear hoz1 hbz1
    go_wp2_with fail
    refine (HIM.out z1 v13 yz1 HGZ1.out HYZ1_1.out).mono ?_
    rintro e w14 ⟨v14, rfl, ho14, hb14⟩
    have A14 := Lib.hid (bt AZ1.out hb14)
    have K14 := Lib.hid (bt KZ1.out hb14)
    have HM14 := Lib.hid (own_below HMZ1.out hb14)
    have HV14 := Lib.hid (RowV.of_own ho14)
    obtain ⟨g14, e14, rfl⟩ := own_slice ho14
    clear hb14 ho14
    go_wp2_with fail
    refine (HEQ.out w14 _ _ HV14.out (RowV.of_own (own_below HW.out A14.out))).mono ?_
    rintro e w15 ⟨rfl, hb15⟩
    have K15 := Lib.hid (bt K14.out hb15)
    have HM15 := Lib.hid (own_below HM14.out hb15)
    clear hb15 HM14 HV14
    go_wp2_with fail
    refine (HHI.out _ w15 (RowV.of_own HM15.out)).mono ?_
    rintro e w16 ⟨rfl, hb16⟩
    have K16 := Lib.hid (bt K15.out hb16)
    clear hb16
    go_wp2_with fail
    go_ret
    exact ⟨rfl, bt HA.out K16.out⟩

set_option maxRecDepth 20000 in
set_option maxHeartbeats 16000000 in
theorem exactLongestWay_of (ls : List (List Int)) (l : List Int) (m1 : List Int) (R : List Int) (n : Int) (ok : Bool) (v u1 : Value) (w : World) (hst : GraphV w v ls l) (hm1 : RowV w u1 (I m1)) (hL : R.length ≤ 1000000)
    (hsp : ∀ W u y1, GraphV W u ls l → RowV W y1 (I m1) → Calls Try.prog 13 #[u, y1] W ((ListNOk R n ok W)))
    (him : ∀ W u y1, GraphV W u ls l → RowV W y1 (I m1) → Calls Try.prog 12 #[u, y1] W ((ListNOk R n ok W))) :
    Calls Try.prog 8 #[v, u1] w (YesZ w) := by
  have HST := Lib.hid hst
  have HSP := Lib.hid hsp
  have HIM := Lib.hid him
  clear hsp him
  obtain ⟨nv, ov, rfl, h1, h2⟩ := hst
  obtain ⟨an, cn, rfl, hn1, hn2, _⟩ := h1.lists
  obtain ⟨ao, co, rfl, ho1, ho2, _⟩ := h2.ints
  clear h1 h2
  have HM1 := Lib.hid hm1
  obtain ⟨ma1, mc1, rfl, hma1, hmb1, _⟩ := hm1.ints
  clear hm1
  unfold maxLen at hn2 ho2 hmb1
  have hne : (ok != ok) = false := by cases ok <;> rfl
  have hnn : (n != n) = false := by simp
  obtain ⟨wa, hwa⟩ : ∃ wa, wa = w.alloc (.cells #[.slice an ls.length cn, .slice ao l.length co] 40) := ⟨_, rfl⟩
  have hsz : wa.heap.size = w.heap.size + 1 := by rw [hwa]; simp
  have P0 : Hid (Blk2 wa w.heap.size 40 (.slice an ls.length cn) (.slice ao l.length co)) := by rw [hwa]; exact Blk2.new
  have HA : Hid (Below w.heap.size w wa) := by rw [hwa]; exact (Below.refl w.heap.size w).alloc (Nat.le_refl _) _
  have hlt0 : w.heap.size < wa.heap.size := by omega
  obtain ⟨c0, c1⟩ := P0.out.cells
  have HWA := Lib.hid hwa
  have HS := Lib.hid (szGraph_any ls l 1048576 _ wa (HST.out.below HA.out) (by omega))
  have HGV : Hid (∀ W, Below wa.heap.size wa W → GraphV W (.agg #[.slice an ls.length cn, .slice ao l.length co]) ls l) := fun W h => HST.out.below (bt HA.out h)
  have HMV1 : Hid (∀ W, Below wa.heap.size wa W → RowV W (.slice ma1 m1.length mc1) (I m1)) := fun W h => HM1.out.below (bt HA.out h)
  clear hwa
  by_cases hbig1 : 1048576 < m1.length
  · have hb1 : decide ((m1.length : Int) > 1048576) = true := by simp; omega
    clear HSP HIM HS
    go_enter Try.func8, Try.ntmps8
    go_wp2_with fail
    rw [← HWA.out]
    go_ret
    exact ⟨rfl, HA.out⟩
  have hbl1 : decide ((m1.length : Int) > 1048576) = false := by simp; omega
  have hml1 : m1.length ≤ 1048576 := by omega
  clear hbig1
  go_enter Try.func8, Try.ntmps8
  go_wp2_with fail
  rw [← HWA.out]
  refine HS.out.mono ?_
  rintro e w1 ⟨r, rfl, hr, hb1⟩
  have K1 := Lib.hid hb1
  clear hb1 HS c0 c1 hbl1
  obtain ⟨c0, c1⟩ := (P0.out.below K1.out hlt0).cells
  by_cases h0 : r < 0
  · clear hr
    go_wp2_with fail
    go_ret
    exact ⟨rfl, bt HA.out K1.out⟩
  have hl : ls.length + total ls + l.length ≤ 1100000 := by have := hr (by omega); omega
  have hl2 : ls.length + total ls + l.length ≤ 2000000 := by omega
  clear hr
  have HTO := Lib.hid (fun W (hb : GraphV W _ ls l) => toGraph_any ls l (.agg #[.slice an ls.length cn, .slice ao l.length co]) W hb hl2)
  have HTI1 := Lib.hid (fun W (hb : RowV W _ (I m1)) => toIntS_any m1 (.slice ma1 m1.length mc1) W hb (by omega))
  have HEI1 := Lib.hid (fun W x y (h1 : RowV W x (I m1)) (h2 : RowV W y (I m1)) => eqIntS_b h1 h2 (by omega) (decide_eq_true (rfl : m1 = m1)))
  have HEQ := Lib.hid (fun W x y (h1 : RowV W x (I R)) (h2 : RowV W y (I R)) => eqIntS_b h1 h2 (by omega) (decide_eq_true (rfl : R = R)))
  have hk2 : decide (((1 + R.length : Nat) : Int) < 0) = false := decide_eq_false (by omega)
  have hk3 : (((1 + R.length : Nat) : Int) != ((1 + R.length : Nat) : Int)) = false := by simp
  have HMI := Lib.hid (fun B u (W : World) (h : W.ownsRow B 3 1 u R.length (I R)) => markIntS_l (l := R) (k := 1) (i := (1 : Int)) (r := ((1 + R.length : Nat) : Int)) rfl (by omega) h (by omega) (by omega))
  have HHI := Lib.hid (fun u W (h : RowV W u (I (marks ((1 : Nat) : Int) R.length))) => heldIntS_l (k := 1) (n := R.length) (i := (1 : Int)) (r := ((1 + R.length : Nat) : Int)) rfl (by omega) h (by omega) (by omega))
  have HMG := Lib.hid (fun B u (W0 W : World) (h : GraphO B W0 u ls l) (hb : Below W0.heap.size W0 W) (hB : B ≤ W0.heap.size) => markGraph_any ls l 1 B u W0 W h hb hB (by omega) (by omega))
  have htg : totalG ls l ≤ 1100000 := by unfold totalG; omega
  have HMM1 := Lib.hid (fun B u (W : World) (h : W.ownsRow B 3 1 u m1.length (I m1)) => markIntS_l (l := m1) (k := 1 + totalG ls l) (i := ((1 + totalG ls l : Nat) : Int)) (r := ((1 + totalG ls l + m1.length : Nat) : Int)) rfl (by omega) h (by omega) (by omega))
  have hk1 : decide (((1 + totalG ls l + m1.length : Nat) : Int) < 0) = false := decide_eq_false (by omega)
  have hone : ((1 : Nat) : Int) = 1 := rfl
  rw [hone] at HMG HMI HHI
  clear hone htg
  generalize 1 + totalG ls l + m1.length = kk1 at *
  generalize 1 + totalG ls l = kk0 at *
  generalize 1 + R.length = k2 at *
  -- the reference's answer
  go_wp2_with fail
  refine (HTO.out w1 (HGV.out w1 K1.out)).mono ?_
  rintro e w2 ⟨v2, rfl, ho2', hb2⟩
  have K2 := Lib.hid (bt K1.out hb2)
  have HG2 := Lib.hid ho2'.view
  clear hb2 ho2' c0 c1
  go_wp2_with fail
  refine (HTI1.out w2 (HMV1.out w2 K2.out)).mono ?_
  rintro e p1 ⟨y1, rfl, hoy1, hbp1⟩
  have KP1 := Lib.hid (bt K2.out hbp1)
  have HGP1 := Lib.hid (HG2.out.below hbp1)
  have HYP1_1 := Lib.hid (RowV.of_own hoy1)
  clear hoy1 hbp1
  go_wp2_with fail
  refine (HSP.out p1 v2 y1 HGP1.out HYP1_1.out).mono ?_
  rintro e w3 ⟨v3, rfl, hw3, hb3⟩
  have K3 := Lib.hid (bt KP1.out hb3)
  have HW := Lib.hid hw3
  have sa3 := K3.out.size
  clear hb3 hw3
  obtain ⟨c0, c1⟩ := (P0.out.below K3.out hlt0).cells
  -- copies of the arguments
  go_wp2_with fail
  refine (HTO.out w3 (HGV.out w3 K3.out)).mono ?_
  rintro e w4 ⟨v4, rfl, ho4, hb4⟩
  have s34 := hb4.size
  have HO4 := Lib.hid ho4
  obtain ⟨b1, d1, b2, d2, rfl⟩ := ho4.slices
  obtain ⟨wb, hwb⟩ : ∃ wb, wb = w4.alloc (.cells #[.slice b1 ls.length d1, .slice b2 l.length d2] 26) := ⟨_, rfl⟩
  have X4 : Hid (Blk2 wb w4.heap.size 26 (.slice b1 ls.length d1) (.slice b2 l.length d2)) := by rw [hwb]; exact Blk2.new
  have hAB : Below w4.heap.size w4 wb := by rw [hwb]; exact (Below.refl w4.heap.size w4).alloc (Nat.le_refl _) _
  have hsb : wb.heap.size = w4.heap.size + 1 := by rw [hwb]; simp
  have E4 := Lib.hid hAB
  have D4 := Lib.hid (Below.refl wb.heap.size wb)
  have A4 := Lib.hid (bt hb4 hAB)
  have K4 := Lib.hid (bt (bt K3.out hb4) hAB)
  have HWB := Lib.hid hwb
  clear hb4 ho4 c0 c1 hwb hAB
  go_wp2_with fail
  rw [← HWB.out]

  refine (HTI1.out wb (HMV1.out wb K4.out)).mono ?_
  rintro e q1 ⟨x1, rfl, hox1, hbq1⟩
  have sq1 := hbq1.size
  have EQ1 := Lib.hid (bt E4.out hbq1)
  have DQ1 := Lib.hid (bt D4.out hbq1)
  have AQ1 := Lib.hid (bt A4.out hbq1)
  have KQ1 := Lib.hid (bt K4.out hbq1)
  have HX1_1 := Lib.hid hox1
  have hxl1 : ∀ b, x1.ownBlock = some b → b < q1.heap.size := fun b h => (hox1.lt b h).2
  clear hox1 hbq1
  obtain ⟨x00, x01⟩ := (X4.out.below DQ1.out (by omega)).cells
  -- the program's answer
  go_wp2_with fail
  refine (HIM.out q1 _ x1 (HO4.out.view.below EQ1.out) (RowV.of_own HX1_1.out)).mono ?_
  rintro e w6 ⟨v6, rfl, hg6, hb6⟩
  have s6 := hb6.size
  have E6 := Lib.hid (bt EQ1.out hb6)
  have D6 := Lib.hid (bt DQ1.out hb6)
  have A6 := Lib.hid (bt AQ1.out hb6)
  have K6 := Lib.hid (bt KQ1.out hb6)
  have HX1_6 := Lib.hid (own_below HX1_1.out hb6)
  have HG6 := Lib.hid hg6
  obtain ⟨g1, e1, rfl⟩ := own_slice hg6
  obtain ⟨g3, e3, hv3⟩ := own_slice HW.out
  subst hv3
  clear hb6 x00 x01 hg6
  go_wp2_with fail
  refine (HEQ.out w6 _ _ (RowV.of_own HG6.out) (RowV.of_own (own_below HW.out A6.out))).mono ?_
  rintro e w7 ⟨rfl, hb7⟩
  have s7 := hb7.size
  have E7 := Lib.hid (bt E6.out hb7)
  have D7 := Lib.hid (bt D6.out hb7)
  have A7 := Lib.hid (bt A6.out hb7)
  have K7 := Lib.hid (bt K6.out hb7)
  have HG7 := Lib.hid (own_below HG6.out hb7)
  have HX1_7 := Lib.hid (own_below HX1_6.out hb7)
  clear hb7 HG6
  have hlt7 : w.heap.size < w7.heap.size := by omega
  have hlt8 : w4.heap.size < w7.heap.size := by omega
  have PD : Hid (Blk2 w7.drew w.heap.size 40 (.slice an ls.length cn) (.slice ao l.length co)) := P0.out.below (Below.drew K7.out) hlt0
  have XD : Hid (Blk2 w7.drew w4.heap.size 26 (.slice b1 ls.length d1) (.slice b2 l.length d2)) := X4.out.below (Below.drew D7.out) (by omega)
  have ks := And.intro PD.out.cells XD.out.cells
  have HX7 : Hid (GraphV w7.drew (.agg #[.slice b1 ls.length d1, .slice b2 l.length d2]) ls l) := HO4.out.view.below (Below.drew E7.out)
  have HST7 : Hid (GraphV w7.drew (.agg #[.slice an ls.length cn, .slice ao l.length co]) ls l) := HGV.out w7.drew (Below.drew K7.out)
  have HE := Lib.hid (fun W v5 (hb : GraphV W _ ls l) (hb5 : GraphV W v5 ls l) => eqGraph_any ls ls l l (.agg #[.slice b1 ls.length d1, .slice b2 l.length d2]) v5 W hb hb5 hl2)
  rw [sameG_self] at HE
  go_wp2_with fail
  -- the copy is as it was
  go_region_held3 (fun w' => (w'.cell? ⟨w.heap.size, 0, none⟩ = some (.slice an ls.length cn) ∧ w'.cell? ⟨w.heap.size, 1, none⟩ = some (.slice ao l.length co)) ∧ (w'.cell? ⟨w4.heap.size, 0, none⟩ = some (.slice b1 ls.length d1) ∧ w'.cell? ⟨w4.heap.size, 1, none⟩ = some (.slice b2 l.length d2))) (first | exact ks)
    (first
      | (go_at_call 31; refine (HTO.out _ (by exact HST7.out)).mono ?_; rintro e w7b ⟨v7, rfl, ho7, hb7⟩
         have ks := And.intro (PD.out.below hb7 hlt7).cells (XD.out.below hb7 hlt8).cells
         have HO7 := Lib.hid ho7.view
         have HXB := Lib.hid (GraphV.below (by exact HX7.out) hb7)
         have C7 := Lib.hid hb7
         clear ho7 hb7)
      | (go_at_call 34; refine (HE.out _ _ (by exact HXB.out) (by exact HO7.out)).mono ?_; rintro e w8 ⟨rfl, hb8⟩
         have C8 := Lib.hid (bt C7.out hb8)
         have ks := And.intro (PD.out.below C8.out hlt7).cells (XD.out.below C8.out hlt8).cells
         clear hb8))
  all_goals
    have s8 : w7.heap.size ≤ w8.heap.size := C8.out.size
    have E8 := Lib.hid (bt (Below.drew E7.out) C8.out)
    have D8 := Lib.hid (bt (Below.drew D7.out) C8.out)
    have A8 := Lib.hid (bt (Below.drew A7.out) C8.out)
    have K8 := Lib.hid (bt (Below.drew K7.out) C8.out)
    have HX1_8 := Lib.hid (own_below (w := w7.drew) (show w7.drew.ownsRow wb.heap.size 3 1 _ _ _ from HX1_7.out) C8.out)
    have HG8 := Lib.hid (own_below (w := w7.drew) (show w7.drew.ownsRow q1.heap.size 3 1 _ _ _ from HG7.out) C8.out)
    clear ks PD XD HX7 HST7 HO7 HXB C7 C8 HG7
    go_wp2_with fail
    refine (HTI1.out w8 (HMV1.out w8 K8.out)).mono ?_
    rintro e r1 ⟨z1, rfl, hoz1, hbr1⟩
    have sr1 := hbr1.size
    have ER1 := Lib.hid (bt E8.out hbr1)
    have DR1 := Lib.hid (bt D8.out hbr1)
    have AR1 := Lib.hid (bt A8.out hbr1)
    have KR1 := Lib.hid (bt K8.out hbr1)
    have HZ1 := Lib.hid (RowV.of_own hoz1)
    have HX1_R1 := Lib.hid (own_below HX1_8.out hbr1)
    have HGR1 := Lib.hid (own_below HG8.out hbr1)
    clear hoz1 hbr1
    go_wp2_with fail
    refine (HEI1.out r1 _ _ (RowV.of_own HX1_R1.out) HZ1.out).mono ?_
    rintro e s1 ⟨rfl, hbs1⟩
    have ss1 := hbs1.size
    have ES1 := Lib.hid (bt ER1.out hbs1)
    have DS1 := Lib.hid (bt DR1.out hbs1)
    have AS1 := Lib.hid (bt AR1.out hbs1)
    have KS1 := Lib.hid (bt KR1.out hbs1)
    have HX1_S1 := Lib.hid (own_below HX1_R1.out hbs1)
    have HGS1 := Lib.hid (own_below HGR1.out hbs1)
    clear hbs1 HZ1
    obtain ⟨x0', x1'⟩ := (X4.out.below DS1.out (by omega)).cells
    -- marks in the copies
    go_wp2_with fail
    refine (HMG.out w3.heap.size _ w4 s1 HO4.out ES1.out s34).mono ?_
    rintro e w9 ⟨rfl, _, hg9⟩
    have s9 := hg9.below.size
    have A9 := Lib.hid (AS1.out.trans hg9.below)
    have K9 := Lib.hid (KS1.out.trans (hg9.below.mono sa3))
    have HG9 := Lib.hid (own_only HGS1.out hg9 (by omega))
    have HX1_9 := Lib.hid (own_only HX1_S1.out hg9 (by omega))
    clear hg9 x0' x1'
    go_wp2_with fail
    refine (HMM1.out wb.heap.size _ w9 HX1_9.out).mono ?_
    rintro e t1 ⟨rfl, _, hgt1⟩
    have hbt1 := below_own HX1_9.out hgt1 (by omega)
    have st1 := hgt1.size
    have AT1 := Lib.hid (A9.out.trans (hbt1.mono (by omega)))
    have KT1 := Lib.hid (K9.out.trans (hbt1.mono (by omega)))
    have HGT1 := Lib.hid (own_apartI HG9.out hgt1 (fun b h1 h2 => by have := hxl1 b h1; have := (HG9.out.lt b h2).1; omega))
    clear hgt1 hbt1
    go_wp2_with fail
    refine (HEQ.out t1 _ _ (RowV.of_own HGT1.out) (RowV.of_own (own_below HW.out AT1.out))).mono ?_
    rintro e w10 ⟨rfl, hb10⟩
    have s10 := hb10.size
    have A10 := Lib.hid (bt AT1.out hb10)
    have K10 := Lib.hid (bt KT1.out hb10)
    have HG10 := Lib.hid (own_below HGT1.out hb10)
    clear hb10
    -- marks in the answer
    go_wp2_with fail
    refine (HMI.out q1.heap.size _ w10 HG10.out).mono ?_
    rintro e w11 ⟨rfl, ho11, hg11⟩
    have hbb := below_own HG10.out hg11 (by omega)
    have s11 := hg11.size
    have A11 := Lib.hid (A10.out.trans (hbb.mono (by omega)))
    have K11 := Lib.hid (K10.out.trans (hbb.mono (by omega)))
    have HM11 := Lib.hid ho11
    clear ho11 hg11 hbb HG10
    go_wp2_with fail
    refine (HHI.out _ w11 (RowV.of_own HM11.out)).mono ?_
    rintro e w12 ⟨rfl, hb12⟩
    have A12 := Lib.hid (bt A11.out hb12)
    have K12 := Lib.hid (bt K11.out hb12)
    have HM12 := Lib.hid (own_below HM11.out hb12)
    clear hb12 HM11
    obtain ⟨c0, c1⟩ := (P0.out.below K12.out hlt0).cells
    -- asked again
    go_wp2_with fail
    refine (HTO.out w12 (HGV.out w12 K12.out)).mono ?_
    rintro e w13 ⟨v13, rfl, ho13, hb13⟩
    have A13 := Lib.hid (bt A12.out hb13)
    have K13 := Lib.hid (bt K12.out hb13)
    have HM13 := Lib.hid (own_below HM12.out hb13)
    have HG13 := Lib.hid ho13.view
    clear hb13 ho13 c0 c1 HM12
    go_wp2_with fail
    refine (HTI1.out w13 (HMV1.out w13 K13.out)).mono ?_
    rintro e z1 ⟨yz1, rfl, hoz1, hbz1⟩
    have AZ1 := Lib.hid (bt A13.out hbz1)
    have KZ1 := Lib.hid (bt K13.out hbz1)
    have HMZ1 := Lib.hid (own_below HM13.out hbz1)
    have HGZ1 := Lib.hid (HG13.out.below hbz1)
    have HYZ1_1 := Lib.hid (RowV.of_own hoz1)
    clear hoz1 hbz1
    go_wp2_with fail
    refine (HIM.out z1 v13 yz1 HGZ1.out HYZ1_1.out).mono ?_
    rintro e w14 ⟨v14, rfl, ho14, hb14⟩
    have A14 := Lib.hid (bt AZ1.out hb14)
    have K14 := Lib.hid (bt KZ1.out hb14)
    have HM14 := Lib.hid (own_below HMZ1.out hb14)
    have HV14 := Lib.hid (RowV.of_own ho14)
    obtain ⟨g14, e14, rfl⟩ := own_slice ho14
    clear hb14 ho14
    go_wp2_with fail
    refine (HEQ.out w14 _ _ HV14.out (RowV.of_own (own_below HW.out A14.out))).mono ?_
    rintro e w15 ⟨rfl, hb15⟩
    have K15 := Lib.hid (bt K14.out hb15)
    have HM15 := Lib.hid (own_below HM14.out hb15)
    clear hb15 HM14 HV14
    go_wp2_with fail
    refine (HHI.out _ w15 (RowV.of_own HM15.out)).mono ?_
    rintro e w16 ⟨rfl, hb16⟩
    have K16 := Lib.hid (bt K15.out hb16)
    clear hb16
    go_wp2_with fail
    go_ret
    exact ⟨rfl, bt HA.out K16.out⟩

set_option maxRecDepth 20000 in
set_option maxHeartbeats 16000000 in
theorem exactWithTime_of (m1 : List Int) (ka kb : Int) (R : List Int) (ok : Bool) (u1 : Value) (w : World) (hm1 : RowV w u1 (I m1)) (hL : R.length ≤ 1000000)
    (hsp : ∀ W y1, RowV W y1 (I m1) → Calls Try.prog 29 #[y1, .int .i64 ka, .int .i64 kb] W (ListOk R ok W))
    (him : ∀ W y1, RowV W y1 (I m1) → Calls Try.prog 27 #[y1, .int .i64 ka, .int .i64 kb] W (ListOk R ok W)) :
    Calls Try.prog 9 #[u1, .int .i64 ka, .int .i64 kb] w (YesZ w) := by
  have HSP := Lib.hid hsp
  have HIM := Lib.hid him
  clear hsp him
  have HM1 := Lib.hid hm1
  obtain ⟨ma1, mc1, rfl, hma1, hmb1, _⟩ := hm1.ints
  clear hm1
  unfold maxLen at hmb1
  have hne : (ok != ok) = false := by cases ok <;> rfl
  have HMV1 : Hid (∀ W, Below w.heap.size w W → RowV W (.slice ma1 m1.length mc1) (I m1)) := fun W h => HM1.out.below h
  by_cases hbig1 : 1048576 < m1.length
  · have hb1 : decide ((m1.length : Int) > 1048576) = true := by simp; omega
    clear HSP HIM
    go_enter Try.func9, Try.ntmps9
    go_wp2_with fail
    go_ret
    exact ⟨rfl, Below.refl _ _⟩
  have hbl1 : decide ((m1.length : Int) > 1048576) = false := by simp; omega
  have hml1 : m1.length ≤ 1048576 := by omega
  clear hbig1
  have HTI1 := Lib.hid (fun W (hb : RowV W _ (I m1)) => toIntS_any m1 (.slice ma1 m1.length mc1) W hb (by omega))
  have HEI1 := Lib.hid (fun W x y (h1 : RowV W x (I m1)) (h2 : RowV W y (I m1)) => eqIntS_b h1 h2 (by omega) (decide_eq_true (rfl : m1 = m1)))
  have HEQ := Lib.hid (fun W x y (h1 : RowV W x (I R)) (h2 : RowV W y (I R)) => eqIntS_b h1 h2 (by omega) (decide_eq_true (rfl : R = R)))
  have hk2 : decide (((1 + R.length : Nat) : Int) < 0) = false := decide_eq_false (by omega)
  have hk3 : (((1 + R.length : Nat) : Int) != ((1 + R.length : Nat) : Int)) = false := by simp
  have HMI := Lib.hid (fun B u (W : World) (h : W.ownsRow B 3 1 u R.length (I R)) => markIntS_l (l := R) (k := 1) (i := (1 : Int)) (r := ((1 + R.length : Nat) : Int)) rfl (by omega) h (by omega) (by omega))
  have HHI := Lib.hid (fun u W (h : RowV W u (I (marks ((1 : Nat) : Int) R.length))) => heldIntS_l (k := 1) (n := R.length) (i := (1 : Int)) (r := ((1 + R.length : Nat) : Int)) rfl (by omega) h (by omega) (by omega))
  have HMM1 := Lib.hid (fun B u (W : World) (h : W.ownsRow B 3 1 u m1.length (I m1)) => markIntS_l (l := m1) (k := 1) (i := (1 : Int)) (r := ((1 + m1.length : Nat) : Int)) rfl (by omega) h (by omega) (by omega))
  have hk1 : decide (((1 + m1.length : Nat) : Int) < 0) = false := decide_eq_false (by omega)
  have hone : ((1 : Nat) : Int) = 1 := rfl
  rw [hone] at HMI HHI HMM1
  clear hone
  generalize 1 + m1.length = kk1 at *
  generalize 1 + R.length = k2 at *
  go_enter Try.func9, Try.ntmps9
  go_wp2_with fail
  -- the reference's answer
  refine (HTI1.out w (HMV1.out w (Below.refl _ _))).mono ?_
  rintro e p1 ⟨y1, rfl, hoy1, hbp1⟩
  have KP1 := Lib.hid hbp1
  have HYP1 := Lib.hid (RowV.of_own hoy1)
  clear hoy1 hbp1 hbl1
  go_wp2_with fail
  refine (HSP.out p1 y1 HYP1.out).mono ?_
  rintro e w3 ⟨v3, rfl, hw3, hb3⟩
  have K3 := Lib.hid (bt KP1.out hb3)
  have HW := Lib.hid hw3
  have sa3 := K3.out.size
  clear hb3 hw3 HYP1
  -- a copy of the argument
  go_wp2_with fail
  refine (HTI1.out w3 (HMV1.out w3 K3.out)).mono ?_
  rintro e q1 ⟨x1, rfl, hox1, hbq1⟩
  have sq1 := hbq1.size
  have AQ1 := Lib.hid hbq1
  have KQ1 := Lib.hid (bt K3.out hbq1)
  have HX1 := Lib.hid hox1
  have hxl1 : ∀ b, x1.ownBlock = some b → b < q1.heap.size := fun b h => (hox1.lt b h).2
  clear hox1 hbq1
  -- the program's answer
  go_wp2_with fail
  refine (HIM.out q1 x1 (RowV.of_own HX1.out)).mono ?_
  rintro e w6 ⟨v6, rfl, hg6, hb6⟩
  have s6 := hb6.size
  have A6 := Lib.hid (bt AQ1.out hb6)
  have K6 := Lib.hid (bt KQ1.out hb6)
  have HX6 := Lib.hid (own_below HX1.out hb6)
  have HG6 := Lib.hid hg6
  obtain ⟨g1, e1, rfl⟩ := own_slice hg6
  obtain ⟨g3, e3, hv3⟩ := own_slice HW.out
  subst hv3
  clear hb6 hg6
  go_wp2_with fail
  refine (HEQ.out w6 _ _ (RowV.of_own HG6.out) (RowV.of_own (own_below HW.out A6.out))).mono ?_
  rintro e w7 ⟨rfl, hb7⟩
  have s7 := hb7.size
  have A7 := Lib.hid (bt A6.out hb7)
  have K7 := Lib.hid (bt K6.out hb7)
  have HG7 := Lib.hid (own_below HG6.out hb7)
  have HX7 := Lib.hid (own_below HX6.out hb7)
  clear hb7 HG6
  go_wp2_with fail
  refine (HTI1.out w7 (HMV1.out w7 K7.out)).mono ?_
  rintro e r1 ⟨z1, rfl, hoz1, hbr1⟩
  have sr1 := hbr1.size
  have AR1 := Lib.hid (bt A7.out hbr1)
  have KR1 := Lib.hid (bt K7.out hbr1)
  have HZ1 := Lib.hid (RowV.of_own hoz1)
  have HXR := Lib.hid (own_below HX7.out hbr1)
  have HGR := Lib.hid (own_below HG7.out hbr1)
  clear hoz1 hbr1
  go_wp2_with fail
  refine (HEI1.out r1 _ _ (RowV.of_own HXR.out) HZ1.out).mono ?_
  rintro e s1 ⟨rfl, hbs1⟩
  have ss1 := hbs1.size
  have AS1 := Lib.hid (bt AR1.out hbs1)
  have KS1 := Lib.hid (bt KR1.out hbs1)
  have HXS := Lib.hid (own_below HXR.out hbs1)
  have HGS := Lib.hid (own_below HGR.out hbs1)
  clear hbs1 HZ1
  -- marks in the copy
  go_wp2_with fail
  refine (HMM1.out w3.heap.size _ s1 HXS.out).mono ?_
  rintro e t1 ⟨rfl, _, hgt1⟩
  have hbt1 := below_own HXS.out hgt1 (by omega)
  have st1 := hgt1.size
  have AT1 := Lib.hid (AS1.out.trans (hbt1.mono (by omega)))
  have KT1 := Lib.hid (KS1.out.trans (hbt1.mono (by omega)))
  have HGT1 := Lib.hid (own_apartI HGS.out hgt1 (fun b h1 h2 => by have := hxl1 b h1; have := (HGS.out.lt b h2).1; omega))
  clear hgt1 hbt1
  go_wp2_with fail
  refine (HEQ.out t1 _ _ (RowV.of_own HGT1.out) (RowV.of_own (own_below HW.out AT1.out))).mono ?_
  rintro e w10 ⟨rfl, hb10⟩
  have s10 := hb10.size
  have A10 := Lib.hid (bt AT1.out hb10)
  have K10 := Lib.hid (bt KT1.out hb10)
  have HG10 := Lib.hid (own_below HGT1.out hb10)
  clear hb10
  -- marks in the answer
  go_wp2_with fail
  refine (HMI.out q1.heap.size _ w10 HG10.out).mono ?_
  rintro e w11 ⟨rfl, ho11, hg11⟩
  have hbb := below_own HG10.out hg11 (by omega)
  have s11 := hg11.size
  have A11 := Lib.hid (A10.out.trans (hbb.mono (by omega)))
  have K11 := Lib.hid (K10.out.trans (hbb.mono (by omega)))
  have HM11 := Lib.hid ho11
  clear ho11 hg11 hbb HG10
  go_wp2_with fail
  refine (HHI.out _ w11 (RowV.of_own HM11.out)).mono ?_
  rintro e w12 ⟨rfl, hb12⟩
  have A12 := Lib.hid (bt A11.out hb12)
  have K12 := Lib.hid (bt K11.out hb12)
  have HM12 := Lib.hid (own_below HM11.out hb12)
  clear hb12 HM11
  -- asked again
  go_wp2_with fail
  refine (HTI1.out w12 (HMV1.out w12 K12.out)).mono ?_
  rintro e z1 ⟨yz1, rfl, hoz1, hbz1⟩
  have AZ1 := Lib.hid (bt A12.out hbz1)
  have KZ1 := Lib.hid (bt K12.out hbz1)
  have HMZ1 := Lib.hid (own_below HM12.out hbz1)
  have HYZ1 := Lib.hid (RowV.of_own hoz1)
  clear hoz1 hbz1 HM12
  go_wp2_with fail
  refine (HIM.out z1 yz1 HYZ1.out).mono ?_
  rintro e w14 ⟨v14, rfl, ho14, hb14⟩
  have A14 := Lib.hid (bt AZ1.out hb14)
  have K14 := Lib.hid (bt KZ1.out hb14)
  have HM14 := Lib.hid (own_below HMZ1.out hb14)
  have HV14 := Lib.hid (RowV.of_own ho14)
  obtain ⟨g14, e14, rfl⟩ := own_slice ho14
  clear hb14 ho14
  go_wp2_with fail
  refine (HEQ.out w14 _ _ HV14.out (RowV.of_own (own_below HW.out A14.out))).mono ?_
  rintro e w15 ⟨rfl, hb15⟩
  have K15 := Lib.hid (bt K14.out hb15)
  have HM15 := Lib.hid (own_below HM14.out hb15)
  clear hb15 HM14 HV14
  go_wp2_with fail
  refine (HHI.out _ w15 (RowV.of_own HM15.out)).mono ?_
  rintro e w16 ⟨rfl, hb16⟩
  have K16 := Lib.hid (bt K15.out hb16)
  clear hb16
  go_wp2_with fail
  go_ret
  exact ⟨rfl, K16.out⟩

end Go.Proofs.Ytgolhfmmlanmlaa
