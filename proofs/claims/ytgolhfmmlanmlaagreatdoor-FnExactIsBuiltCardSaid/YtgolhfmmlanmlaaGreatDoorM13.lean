/- Texts of one claim, joined in their order. -/
import Derived.Test.YtgolhfmmlanmlaaGreatDoorM10
import Derived.Test.YtgolhfmmlanmlaaGreatDoorM6

/- Walks: the law that whether all is built is told alike, given contracts of both programs. -/
namespace Go.Proofs.YtgolhfmmlanmlaaGreatDoor
open Go.RowKit Pth

set_option maxRecDepth 20000 in
set_option maxHeartbeats 16000000 in
theorem exactIsBuilt_of (ls : List (List Int)) (l : List Int) (bs : List Bool) (rs : List (List OpT)) (m1 : List ResT) (m2 : List (List UInt8)) (p : Bool) (G : Bool) (v u1 u2 : Value) (w : World) (hst : PlanV w v ls l bs rs) (hx : ∀ l ∈ rs, ∀ f ∈ l, f.2.2.length ≤ maxLen) (hm1 : RowR w u1 m1) (hx1 : ∀ f ∈ m1, f.1.length ≤ maxLen) (hm2 : RowV w u2 (S m2)) (hx2 : ∀ x ∈ m2, x.length ≤ maxLen)
    (hsp : ∀ W u y1 y2, PlanV W u ls l bs rs → RowR W y1 m1 → RowV W y2 (S m2) → Calls Tryz.prog 31 #[u, y1, y2] W (fun e w' => e = .returned (.tuple #[.bool p, .bool G]) ∧ Below W.heap.size W w'))
    (him : ∀ W u y1 y2, PlanV W u ls l bs rs → RowR W y1 m1 → RowV W y2 (S m2) → Calls Tryz.prog 32 #[u, y1, y2] W (fun e w' => e = .returned (.tuple #[.bool p, .bool G]) ∧ Below W.heap.size W w')) :
    Calls Tryz.prog 5 #[v, u1, u2] w (YesW w) := by
  have HST := Lib.hid hst
  have HSP := Lib.hid hsp
  have HIM := Lib.hid him
  clear hsp him
  obtain ⟨nv, ov, sv, rv, rfl, h1, h2, h3, h4⟩ := hst
  obtain ⟨as0, cs, rfl, hs1, hs2, _⟩ := h3.boolsW
  obtain ⟨an, cn, rfl, hn1, hn2, _⟩ := h1.lists
  obtain ⟨ao, co, rfl, ho1, ho2, _⟩ := h2.ints
  obtain ⟨ar, cr, rfl, hr1, hr2, _⟩ := h4.lists
  clear h1 h2 h3 h4
  have HM1 := Lib.hid hm1
  have HX1 := Lib.hid hx1
  obtain ⟨ma1, mc1, rfl, hma1, hmb1, _⟩ := hm1.res
  clear hm1 hx1
  have HM2 := Lib.hid hm2
  have HX2 := Lib.hid hx2
  obtain ⟨ma2, mc2, rfl, hma2, hmb2, _⟩ := hm2.texts
  clear hm2 hx2
  unfold maxLen at hs2 hn2 ho2 hr2 hmb1 hmb2
  obtain ⟨wa, hwa⟩ : ∃ wa, wa = w.alloc (.cells #[.slice an ls.length cn, .slice ao l.length co, .slice as0 bs.length cs, .slice ar rs.length cr] 29) := ⟨_, rfl⟩
  have hsz : wa.heap.size = w.heap.size + 1 := by rw [hwa]; simp
  have P0 : Hid (Blk4 wa w.heap.size 29 (.slice an ls.length cn) (.slice ao l.length co) (.slice as0 bs.length cs) (.slice ar rs.length cr)) := by rw [hwa]; exact Blk4.new
  have HA : Hid (Below w.heap.size w wa) := by rw [hwa]; exact (Below.refl w.heap.size w).alloc (Nat.le_refl _) _
  have hlt0 : w.heap.size < wa.heap.size := by omega
  obtain ⟨c0, c1, c2, c3⟩ := P0.out.cells
  have HWA := Lib.hid hwa
  have HS := Lib.hid (szPlan_any ls l bs rs 1048576 _ wa (HST.out.below HA.out) hx (by omega))
  have HPV : Hid (∀ W, Below wa.heap.size wa W → PlanV W (.agg #[.slice an ls.length cn, .slice ao l.length co, .slice as0 bs.length cs, .slice ar rs.length cr]) ls l bs rs) := fun W h => HST.out.below (bth HA.out h (Nat.le_refl _))
  have HMV1 : Hid (∀ W, Below wa.heap.size wa W → RowR W (.slice ma1 m1.length mc1) m1) := fun W h => HM1.out.below (bth HA.out h (Nat.le_refl _))
  have HMV2 : Hid (∀ W, Below wa.heap.size wa W → RowV W (.slice ma2 m2.length mc2) (S m2)) := fun W h => HM2.out.below (bth HA.out h (Nat.le_refl _))
  clear hwa hx
  go_enter Tryz.func5, Tryz.ntmps5
  go_wp2_with fail
  rw [← HWA.out]
  refine HS.out.mono ?_
  rintro e w1 ⟨r0, rfl, hle0, hr0, hb1⟩
  have K0 := Lib.hid hb1
  clear hb1 HS c0 c1 c2 c3
  by_cases h0 : r0 < 0
  · clear hr0 hle0
    go_wp2_with fail
    go_ret
    exact ⟨rfl, bth HA.out K0.out (Nat.le_refl _)⟩
  have hz : planZ ls l bs rs ≤ 1100000 := by have := hr0 (by omega); omega
  have hz2 : planZ ls l bs rs ≤ 2000000 := by omega
  obtain ⟨n0, rfl⟩ : ∃ n0 : Nat, r0 = n0 := ⟨r0.toNat, by omega⟩
  have hn0 : n0 ≤ 2000000 := by omega
  clear hr0
  go_wp2_with fail
  refine (szResultS_any m1 n0 _ w1 (HMV1.out w1 K0.out) HX1.out hn0).mono ?_
  rintro e x1 ⟨r1, rfl, hle1, hr1, hb1⟩
  have KX1 := Lib.hid (bth K0.out hb1 (Nat.le_refl _))
  clear hb1
  by_cases hc1 : r1 < 0
  · clear hr1
    go_wp2_with fail
    go_ret
    exact ⟨rfl, bth HA.out KX1.out (Nat.le_refl _)⟩
  have hml1 : m1.length ≤ 1100000 := by have := (hr1 (by omega)).1; omega
  clear hr1
  obtain ⟨n1, rfl⟩ : ∃ n1 : Nat, r1 = n1 := ⟨r1.toNat, by omega⟩
  have hn1 : n1 ≤ 2000000 := by omega
  go_wp2_with fail
  refine (szStringS_any m2 n1 _ x1 (HMV2.out x1 KX1.out) HX2.out hn1).mono ?_
  rintro e x2 ⟨r2, rfl, hr2, hw2⟩
  obtain rfl := hw2
  have KX2 := KX1
  by_cases hc2 : r2 < 0
  · clear hr2
    go_wp2_with fail
    go_ret
    exact ⟨rfl, bth HA.out KX2.out (Nat.le_refl _)⟩
  have hml2 : m2.length ≤ 1100000 := by have := (hr2 (by omega)).1; omega
  clear hr2
  obtain ⟨c0, c1, c2, c3⟩ := (P0.out.below KX2.out hlt0).cells
  have HTO := Lib.hid (fun W (hb : PlanV W _ ls l bs rs) => toPlan_any ls l bs rs (.agg #[.slice an ls.length cn, .slice ao l.length co, .slice as0 bs.length cs, .slice ar rs.length cr]) W hb hz2)
  have HTI1 := Lib.hid (fun W (hb : RowR W _ m1) => toResultS_any m1 (.slice ma1 m1.length mc1) W hb (by omega))
  have HEI1 : Hid (∀ W x y, RowR W x m1 → RowR W y m1 → Calls Tryz.prog 14 #[x, y] W fun e w' => e = .returned (.bool true) ∧ Below W.heap.size W w') := fun W x y h1 h2 => by
    have := eqResultS_any m1 m1 x y W h1 h2 (by omega)
    rwa [decide_eq_true (rfl : m1 = m1)] at this
  have HTI2 := Lib.hid (fun W (hb : RowV W _ (S m2)) => toStringS_any m2 (.slice ma2 m2.length mc2) W hb (by omega))
  have HEI2 : Hid (∀ W x y, RowV W x (S m2) → RowV W y (S m2) → Calls Tryz.prog 17 #[x, y] W fun e w' => e = .returned (.bool true) ∧ Below W.heap.size W w') := fun W x y h1 h2 => by
    have := eqStringS_any m2 m2 x y W h1 h2 (by omega)
    rwa [decide_eq_true (rfl : m2 = m2)] at this
  have HE : Hid (∀ W x y, PlanV W x ls l bs rs → PlanV W y ls l bs rs → Calls Tryz.prog 16 #[x, y] W fun e w' => e = .returned (.bool true) ∧ Below W.heap.size W w') := fun W x y h1 h2 => eqPlan_same ls l bs rs x y W h1 h2 hz2
  have hne : (G != G) = false := by cases G <;> rfl
  have hnp : (p != p) = false := by cases p <;> rfl
  -- the reference's answer
  go_wp2_with fail
  refine (HTO.out x1 (HPV.out x1 KX2.out)).mono ?_
  rintro e w2 ⟨v2, rfl, ho2', hb2⟩
  have K2 := Lib.hid (bth KX2.out hb2 (Nat.le_refl _))
  have HG2 := Lib.hid ho2'.view
  clear hb2 ho2' c0 c1 c2 c3
  go_wp2_with fail
  refine (HTI1.out w2 (HMV1.out w2 K2.out)).mono ?_
  rintro e p1 ⟨y1, rfl, hoy1, hbp1⟩
  have KP1 := Lib.hid (bth K2.out hbp1 (Nat.le_refl _))
  have HGP1 := Lib.hid (HG2.out.below hbp1)
  have HYP1_1 := Lib.hid (RowR.of_own hoy1)
  clear hoy1 hbp1
  go_wp2_with fail
  refine (HTI2.out p1 (HMV2.out p1 KP1.out)).mono ?_
  rintro e p2 ⟨y2, rfl, hoy2, hbp2⟩
  have KP2 := Lib.hid (bth KP1.out hbp2 (Nat.le_refl _))
  have HGP2 := Lib.hid (HGP1.out.below hbp2)
  have HYP1_2 := Lib.hid (HYP1_1.out.below hbp2)
  have HYP2_2 := Lib.hid (RowV.of_own hoy2)
  clear hoy2 hbp2
  go_wp2_with fail
  refine (HSP.out p2 v2 y1 y2 HGP2.out HYP1_2.out HYP2_2.out).mono ?_
  rintro e w3 ⟨rfl, hb3⟩
  have K3 := Lib.hid (bth KP2.out hb3 (Nat.le_refl _))
  have sa3 := K3.out.size
  clear hb3
  obtain ⟨c0, c1, c2, c3⟩ := (P0.out.below K3.out hlt0).cells
  -- copies of the arguments
  go_wp2_with fail
  refine (HTO.out w3 (HPV.out w3 K3.out)).mono ?_
  rintro e w4 ⟨v4, rfl, ho4, hb4⟩
  have s34 := hb4.size
  have HO4 := Lib.hid ho4
  obtain ⟨bn, dn, bo, do', bb, db, br, dr, rfl⟩ := ho4.slices
  obtain ⟨wb, hwb⟩ : ∃ wb, wb = w4.alloc (.cells #[.slice bn ls.length dn, .slice bo l.length do', .slice bb bs.length db, .slice br rs.length dr] 42) := ⟨_, rfl⟩
  have X4 : Hid (Blk4 wb w4.heap.size 42 (.slice bn ls.length dn) (.slice bo l.length do') (.slice bb bs.length db) (.slice br rs.length dr)) := by rw [hwb]; exact Blk4.new
  have hAB : Below w4.heap.size w4 wb := by rw [hwb]; exact (Below.refl w4.heap.size w4).alloc (Nat.le_refl _) _
  have hsb : wb.heap.size = w4.heap.size + 1 := by rw [hwb]; simp
  have D4 := Lib.hid (Below.refl wb.heap.size wb)
  have E4 := Lib.hid hAB
  have KW4 := Lib.hid (bth (bth K3.out hb4 (Nat.le_refl _)) hAB (Nat.le_refl _))
  have HWB := Lib.hid hwb
  clear hb4 ho4 c0 c1 c2 c3 hwb hAB
  go_wp2_with fail
  rw [← HWB.out]

  refine (HTI1.out wb (HMV1.out wb KW4.out)).mono ?_
  rintro e q1 ⟨x1, rfl, hox1, hbq1⟩
  have sq1 := hbq1.size
  have EQ1 := Lib.hid (bth E4.out hbq1 (Nat.le_refl _))
  have DQ1 := Lib.hid (bth D4.out hbq1 (Nat.le_refl _))
  have KQ1 := Lib.hid (bth KW4.out hbq1 (Nat.le_refl _))
  have HX1_1 := Lib.hid hox1
  clear hox1 hbq1
  go_wp2_with fail
  refine (HTI2.out q1 (HMV2.out q1 KQ1.out)).mono ?_
  rintro e q2 ⟨x2, rfl, hox2, hbq2⟩
  have sq2 := hbq2.size
  have EQ2 := Lib.hid (bth EQ1.out hbq2 (Nat.le_refl _))
  have DQ2 := Lib.hid (bth DQ1.out hbq2 (Nat.le_refl _))
  have KQ2 := Lib.hid (bth KQ1.out hbq2 (Nat.le_refl _))
  have HX1_2 := Lib.hid (own_belowG HX1_1.out hbq2)
  have HX2_2 := Lib.hid hox2
  clear hox2 hbq2
  obtain ⟨x00, x01, x02, x03⟩ := (X4.out.below DQ2.out (by omega)).cells
  -- the program's answer
  go_wp2_with fail
  refine (HIM.out q2 _ x1 x2 (HO4.out.view.below EQ2.out) (RowR.of_own HX1_2.out) (RowV.of_own HX2_2.out)).mono ?_
  rintro e w6 ⟨rfl, hb6⟩
  have s6 := hb6.size
  have E6 := Lib.hid (bth EQ2.out hb6 (Nat.le_refl _))
  have D6 := Lib.hid (bth DQ2.out hb6 (Nat.le_refl _))
  have K6 := Lib.hid (bth KQ2.out hb6 (Nat.le_refl _))
  have HX1_6 := Lib.hid (own_belowG HX1_2.out hb6)
  have HX2_6 := Lib.hid (own_below HX2_2.out hb6)
  clear hb6 x00 x01 x02 x03
  have hlt7 : w.heap.size < w6.heap.size := by omega
  have hlt8 : w4.heap.size < w6.heap.size := by omega
  have PD : Hid (Blk4 w6.drew w.heap.size 29 (.slice an ls.length cn) (.slice ao l.length co) (.slice as0 bs.length cs) (.slice ar rs.length cr)) := P0.out.below (Below.drew K6.out) hlt0
  have XD : Hid (Blk4 w6.drew w4.heap.size 42 (.slice bn ls.length dn) (.slice bo l.length do') (.slice bb bs.length db) (.slice br rs.length dr)) := X4.out.below (Below.drew D6.out) (by omega)
  have ks := And.intro PD.out.cells XD.out.cells
  have HX7 : Hid (PlanV w6.drew (.agg #[.slice bn ls.length dn, .slice bo l.length do', .slice bb bs.length db, .slice br rs.length dr]) ls l bs rs) := HO4.out.view.below (Below.drew E6.out)
  have HST7 : Hid (PlanV w6.drew (.agg #[.slice an ls.length cn, .slice ao l.length co, .slice as0 bs.length cs, .slice ar rs.length cr]) ls l bs rs) := HPV.out w6.drew (Below.drew K6.out)
  go_wp2_with fail
  -- the copy is as it was
  go_region_held3 (fun w' => (w'.cell? ⟨w.heap.size, 0, none⟩ = some (.slice an ls.length cn) ∧ w'.cell? ⟨w.heap.size, 1, none⟩ = some (.slice ao l.length co) ∧ w'.cell? ⟨w.heap.size, 2, none⟩ = some (.slice as0 bs.length cs) ∧ w'.cell? ⟨w.heap.size, 3, none⟩ = some (.slice ar rs.length cr)) ∧ (w'.cell? ⟨w4.heap.size, 0, none⟩ = some (.slice bn ls.length dn) ∧ w'.cell? ⟨w4.heap.size, 1, none⟩ = some (.slice bo l.length do') ∧ w'.cell? ⟨w4.heap.size, 2, none⟩ = some (.slice bb bs.length db) ∧ w'.cell? ⟨w4.heap.size, 3, none⟩ = some (.slice br rs.length dr))) (first | exact ks)
    (first
      | (go_at_call 10; refine (HTO.out _ (by exact HST7.out)).mono ?_; rintro e w7b ⟨v7, rfl, ho7, hb7⟩
         have ks := And.intro (PD.out.below hb7 hlt7).cells (XD.out.below hb7 hlt8).cells
         have HO7 := Lib.hid ho7.view
         have HXB := Lib.hid (PlanV.below (by exact HX7.out) hb7)
         have C7 := Lib.hid hb7
         clear ho7 hb7)
      | (go_at_call 16; refine (HE.out _ _ _ (by exact HXB.out) (by exact HO7.out)).mono ?_; rintro e w8 ⟨rfl, hb8⟩
         have C8 := Lib.hid (bth C7.out hb8 (Nat.le_refl _))
         have ks := And.intro (PD.out.below C8.out hlt7).cells (XD.out.below C8.out hlt8).cells
         clear hb8))
  all_goals
    have K8 := Lib.hid (bth (Below.drew K6.out) C8.out (Nat.le_refl _))
    have HX1_8 := Lib.hid (own_belowG (w := w6.drew) (show w6.drew.ownsRow wb.heap.size 75 2 _ _ _ from HX1_6.out) C8.out)
    have HX2_8 := Lib.hid (own_below (w := w6.drew) (show w6.drew.ownsRow q1.heap.size 9 1 _ _ _ from HX2_6.out) C8.out)
    clear ks PD XD HX7 HST7 HO7 HXB C7 C8
    go_wp2_with fail
    refine (HTI1.out w8 (HMV1.out w8 K8.out)).mono ?_
    rintro e r1 ⟨z1, rfl, hoz1, hbr1⟩
    have KR1 := Lib.hid (bth K8.out hbr1 (Nat.le_refl _))
    have HZ1 := Lib.hid (RowR.of_own hoz1)
    have HX1_R1 := Lib.hid (own_belowG HX1_8.out hbr1)
    have HX2_R1 := Lib.hid (own_below HX2_8.out hbr1)
    clear hoz1 hbr1
    go_wp2_with fail
    refine (HEI1.out r1 _ _ (RowR.of_own HX1_R1.out) HZ1.out).mono ?_
    rintro e s1 ⟨rfl, hbs1⟩
    have KS1 := Lib.hid (bth KR1.out hbs1 (Nat.le_refl _))
    have HX1_S1 := Lib.hid (own_belowG HX1_R1.out hbs1)
    have HX2_S1 := Lib.hid (own_below HX2_R1.out hbs1)
    clear hbs1 HZ1
    go_wp2_with fail
    refine (HTI2.out s1 (HMV2.out s1 KS1.out)).mono ?_
    rintro e r2 ⟨z2, rfl, hoz2, hbr2⟩
    have KR2 := Lib.hid (bth KS1.out hbr2 (Nat.le_refl _))
    have HZ2 := Lib.hid (RowV.of_own hoz2)
    have HX1_R2 := Lib.hid (own_belowG HX1_S1.out hbr2)
    have HX2_R2 := Lib.hid (own_below HX2_S1.out hbr2)
    clear hoz2 hbr2
    go_wp2_with fail
    refine (HEI2.out r2 _ _ (RowV.of_own HX2_R2.out) HZ2.out).mono ?_
    rintro e s2 ⟨rfl, hbs2⟩
    have KS2 := Lib.hid (bth KR2.out hbs2 (Nat.le_refl _))
    have HX1_S2 := Lib.hid (own_belowG HX1_R2.out hbs2)
    have HX2_S2 := Lib.hid (own_below HX2_R2.out hbs2)
    clear hbs2 HZ2
    go_wp2_with fail
    go_ret
    exact ⟨rfl, bth HA.out KS2.out (Nat.le_refl _)⟩

end Go.Proofs.YtgolhfmmlanmlaaGreatDoor
