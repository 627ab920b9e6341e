/- Texts of one claim, joined in their order. -/
import Derived.Laws.EntriesVeiled
import Derived.Test.YtcfhfhpdnjaokaaGreatDoorM11
import Derived.Test.YtcfhfhpdnjaokaaGreatDoorM2
import Derived.Test.YtcfhfhpdnjaokaaGreatDoorM14
import Derived.Test.YtcfhfhpdnjaokaaGreatDoorM13
import Derived.Test.YtcfhfhpdnjaokaaGreatDoorM12

/- Walks: the laws over a plan and lists whose answer is a list, given contracts of both programs. -/
namespace Go.Proofs.YtcfhfhpdnjaokaaGreatDoor
open Go.RowKit Pth

set_option maxRecDepth 20000 in
set_option maxHeartbeats 16000000 in
theorem exactFixFirst_of (ls : List (List Int)) (l : List Int) (bs : List Bool) (rs : List (List OpT)) (m1 : List ResT) (m2 : List (List UInt8)) (R : List ResT) (n : Int) (ok : Bool) (v u1 u2 : Value) (w : World) (hst : PlanV w v ls l bs rs) (hx : ∀ l ∈ rs, ∀ f ∈ l, f.2.2.length ≤ maxLen) (hm1 : RowR w u1 m1) (hx1 : ∀ f ∈ m1, f.1.length ≤ maxLen) (hm2 : RowV w u2 (S m2)) (hx2 : ∀ x ∈ m2, x.length ≤ maxLen)
    (hL : R.length ≤ 1000000)
    (hsp : ∀ W u y1 y2, PlanV W u ls l bs rs → RowR W y1 m1 → RowV W y2 (S m2) → Calls Tryz.prog 47 #[u, y1, y2] W (ResNOk R n ok W))
    (him : ∀ W u y1 y2, PlanV W u ls l bs rs → RowR W y1 m1 → RowV W y2 (S m2) → Calls Tryz.prog 41 #[u, y1, y2] W (ResNOk R n ok W)) :
    Calls Tryz.prog 13 #[v, u1, u2] w (YesW w) := by
  have HST := Lib.hid hst
  have HSP := Lib.hid hsp
  have HIM := Lib.hid him
  clear hsp him
  obtain ⟨nv, ov, sv, rv, rfl, h1, h2, h3, h4⟩ := hst
  obtain ⟨as0, cs, rfl, hs1, hs2, _⟩ := h3.boolsW
  obtain ⟨an, cn, rfl, hn1, hn2, _⟩ := h1.lists
  obtain ⟨ao, co, rfl, ho1, ho2, _⟩ := h2.ints
  obtain ⟨ar, cr, rfl, hr1, hr2, _⟩ := h4.lists
  clear h1 h2 h3 h4
  have HM1 := Lib.hid hm1
  have HX1 := Lib.hid hx1
  obtain ⟨ma1, mc1, rfl, hma1, hmb1, _⟩ := hm1.res
  clear hm1 hx1
  have HM2 := Lib.hid hm2
  have HX2 := Lib.hid hx2
  obtain ⟨ma2, mc2, rfl, hma2, hmb2, _⟩ := hm2.texts
  clear hm2 hx2
  unfold maxLen at hs2 hn2 ho2 hr2 hmb1 hmb2
  obtain ⟨wa, hwa⟩ : ∃ wa, wa = w.alloc (.cells #[.slice an ls.length cn, .slice ao l.length co, .slice as0 bs.length cs, .slice ar rs.length cr] 76) := ⟨_, rfl⟩
  have hsz : wa.heap.size = w.heap.size + 1 := by rw [hwa]; simp
  have P0 : Hid (Blk4 wa w.heap.size 76 (.slice an ls.length cn) (.slice ao l.length co) (.slice as0 bs.length cs) (.slice ar rs.length cr)) := by rw [hwa]; exact Blk4.new
  have HA : Hid (Below w.heap.size w wa) := by rw [hwa]; exact (Below.refl w.heap.size w).alloc (Nat.le_refl _) _
  have hlt0 : w.heap.size < wa.heap.size := by omega
  obtain ⟨c0, c1, c2, c3⟩ := P0.out.cells
  have HWA := Lib.hid hwa
  have HS := Lib.hid (szPlan_any ls l bs rs 1048576 _ wa (HST.out.below HA.out) hx (by omega))
  have HPV : Hid (∀ W, Below wa.heap.size wa W → PlanV W (.agg #[.slice an ls.length cn, .slice ao l.length co, .slice as0 bs.length cs, .slice ar rs.length cr]) ls l bs rs) := fun W h => HST.out.below (bth HA.out h (Nat.le_refl _))
  have HMV1 : Hid (∀ W, Below wa.heap.size wa W → RowR W (.slice ma1 m1.length mc1) m1) := fun W h => HM1.out.below (bth HA.out h (Nat.le_refl _))
  have HMV2 : Hid (∀ W, Below wa.heap.size wa W → RowV W (.slice ma2 m2.length mc2) (S m2)) := fun W h => HM2.out.below (bth HA.out h (Nat.le_refl _))
  clear hwa hx
  go_enter Tryz.func13, Tryz.ntmps13
  go_wp2_with fail
  rw [← HWA.out]
  refine HS.out.mono ?_
  rintro e w1 ⟨r0, rfl, hle0, hr0, hb1⟩
  have K0 := Lib.hid hb1
  clear hb1 HS c0 c1 c2 c3
  by_cases h0 : r0 < 0
  · clear hr0 hle0
    go_wp2_with fail
    go_ret
    exact ⟨rfl, bth HA.out K0.out (Nat.le_refl _)⟩
  have hz : planZ ls l bs rs ≤ 1100000 := by have := hr0 (by omega); omega
  have hz2 : planZ ls l bs rs ≤ 2000000 := by omega
  obtain ⟨n0, rfl⟩ : ∃ n0 : Nat, r0 = n0 := ⟨r0.toNat, by omega⟩
  have hn0 : n0 ≤ 2000000 := by omega
  have HR0 : Hid (n0 + planZ ls l bs rs ≤ 1048576) := by have := hr0 (by omega); show _ ≤ _; omega
  clear hr0
  go_wp2_with fail
  refine (szResultS_any m1 n0 _ w1 (HMV1.out w1 K0.out) HX1.out hn0).mono ?_
  rintro e x1 ⟨r1, rfl, hle1, hr1, hb1⟩
  have KX1 := Lib.hid (bth K0.out hb1 (Nat.le_refl _))
  clear hb1
  by_cases hc1 : r1 < 0
  · clear hr1
    go_wp2_with fail
    go_ret
    exact ⟨rfl, bth HA.out KX1.out (Nat.le_refl _)⟩
  have hml1 : m1.length ≤ 1100000 := by have := (hr1 (by omega)).1; omega
  obtain ⟨n1, rfl⟩ : ∃ n1 : Nat, r1 = n1 := ⟨r1.toNat, by omega⟩
  have hn1 : n1 ≤ 2000000 := by omega
  have HR1 : Hid (n1 + (planZ ls l bs rs + m1.length) ≤ 1048576) := by have := (hr1 (by omega)).1; have := HR0.out; show _ ≤ _; omega
  clear hr1
  go_wp2_with fail
  refine (szStringS_le m2 n1 _ x1 (HMV2.out x1 KX1.out) HX2.out hn1).mono ?_
  rintro e x2 ⟨r2, rfl, hle2, hr2, hw2⟩
  obtain rfl := hw2
  have KX2 := KX1
  by_cases hc2 : r2 < 0
  · clear hr2
    go_wp2_with fail
    go_ret
    exact ⟨rfl, bth HA.out KX2.out (Nat.le_refl _)⟩
  have hml2 : m2.length ≤ 1100000 := by have := (hr2 (by omega)).1; omega
  obtain ⟨n2, rfl⟩ : ∃ n2 : Nat, r2 = n2 := ⟨r2.toNat, by omega⟩
  have hn2 : n2 ≤ 2000000 := by omega
  have HR2 : Hid (n2 + (planZ ls l bs rs + m1.length + m2.length) ≤ 1048576) := by have := (hr2 (by omega)).1; have := HR1.out; show _ ≤ _; omega
  clear hr2
  obtain ⟨c0, c1, c2, c3⟩ := (P0.out.below KX2.out hlt0).cells
  have HTO := Lib.hid (fun W (hb : PlanV W _ ls l bs rs) => toPlan_any ls l bs rs (.agg #[.slice an ls.length cn, .slice ao l.length co, .slice as0 bs.length cs, .slice ar rs.length cr]) W hb hz2)
  have HTI1 := Lib.hid (fun W (hb : RowR W _ m1) => toResultS_any m1 (.slice ma1 m1.length mc1) W hb (by omega))
  have HEI1 : Hid (∀ W x y, RowR W x m1 → RowR W y m1 → Calls Tryz.prog 57 #[x, y] W fun e w' => e = .returned (.bool true) ∧ Below W.heap.size W w') := fun W x y h1 h2 => by
    have := eqResultS_any m1 m1 x y W h1 h2 (by omega)
    rwa [decide_eq_true (rfl : m1 = m1)] at this
  have HTI2 := Lib.hid (fun W (hb : RowV W _ (S m2)) => toStringS_any m2 (.slice ma2 m2.length mc2) W hb (by omega))
  have HEI2 : Hid (∀ W x y, RowV W x (S m2) → RowV W y (S m2) → Calls Tryz.prog 59 #[x, y] W fun e w' => e = .returned (.bool true) ∧ Below W.heap.size W w') := fun W x y h1 h2 => by
    have := eqStringS_any m2 m2 x y W h1 h2 (by omega)
    rwa [decide_eq_true (rfl : m2 = m2)] at this
  have HE : Hid (∀ W x y, PlanV W x ls l bs rs → PlanV W y ls l bs rs → Calls Tryz.prog 58 #[x, y] W fun e w' => e = .returned (.bool true) ∧ Below W.heap.size W w') := fun W x y h1 h2 => eqPlan_same ls l bs rs x y W h1 h2 hz2
  have hne : (ok != ok) = false := by cases ok <;> rfl
  have hnn : (n != n) = false := by simp
  have HEQ : Hid (∀ W x y, RowR W x R → RowR W y R → Calls Tryz.prog 57 #[x, y] W fun e w' => e = .returned (.bool true) ∧ Below W.heap.size W w') := fun W x y h1 h2 => by
    have := eqResultS_any R R x y W h1 h2 (by omega)
    rwa [decide_eq_true (rfl : R = R)] at this
  have HMI : Hid (∀ B u W, World.ownsRow W B 41 2 u R.length (RC R) → Calls Tryz.prog 62 #[u, .int .i64 1] W fun e w' => e = .returned (.int .i64 ((1 : Int) + (R.length : Int) * 2)) ∧ w'.ownsRow B 41 2 u R.length (RC (marksR 1 R.length)) ∧ W.grownBy w' u.ownBlock) := fun B u W h => markResultS_any R 1 B u W h (by omega) (by omega) (by omega)
  have HHI : Hid (∀ u W, RowR W u (marksR 1 R.length) → Calls Tryz.prog 63 #[u, .int .i64 1] W fun e w' => e = .returned (.int .i64 ((1 : Int) + (R.length : Int) * 2)) ∧ Below W.heap.size W w') := fun u W h => heldResultS_any 1 R.length u W h (by omega) (by omega) (by omega)
  have hk2 : decide ((1 : Int) + (R.length : Int) * 2 < 0) = false := decide_eq_false (by omega)
  have hqq : ((1 : Int) + (R.length : Int) * 2 != (1 : Int) + (R.length : Int) * 2) = false := by simp
  have hz4 : planZ ls l bs rs ≤ 1048576 := by have := HR0.out; omega
  have HMG := Lib.hid (fun B u (W0 W : World) (h : PlanO B W0 u ls l bs rs) (hb : Below W0.heap.size W0 W) (hB : B ≤ W0.heap.size) => markPlan_any ls l bs rs B u W0 W h hb hB hz4)
  have hkk0 : (1 + markZ ls l bs rs) + 3 * (m1.length + m2.length) ≤ 3500000 := by have := HR2.out; unfold markZ totalG; unfold planZ at this; omega
  generalize hkz : 1 + markZ ls l bs rs = k0 at HMG hkk0
  have hkz1 : 1 ≤ k0 := by omega
  clear hkz hz4
  have HMM1 := Lib.hid (fun B u (W : World) (h : W.ownsRow B 41 2 u m1.length (RC m1)) => markResultS_any m1 k0 B u W h (by omega) (by omega) (by omega))
  obtain ⟨k1, hke1⟩ : ∃ k1 : Nat, k1 = k0 + m1.length * 2 := ⟨_, rfl⟩
  have ek1 : (k0 : Int) + (m1.length : Int) * 2 = (k1 : Int) := by omega
  have HEK1 := Lib.hid ek1
  have HMM2 := Lib.hid (fun B u (W : World) (h : W.ownsRow B 9 1 u m2.length (S m2)) => markStringS_any m2 k1 B u W h (by omega) (by omega) (by omega))
  obtain ⟨k2, hke2⟩ : ∃ k2 : Nat, k2 = k1 + m2.length := ⟨_, rfl⟩
  have ek2 : (k1 : Int) + (m2.length : Int) = (k2 : Int) := by omega
  have HEK2 := Lib.hid ek2
  have hkd : decide ((k2 : Int) < 0) = false := decide_eq_false (by omega)
  clear hkk0 hke2 ek2 hke1 ek1
  -- the reference's answer
  go_wp2_with fail
  refine (HTO.out x1 (HPV.out x1 KX2.out)).mono ?_
  rintro e w2 ⟨v2, rfl, ho2', hb2⟩
  have K2 := Lib.hid (bth KX2.out hb2 (Nat.le_refl _))
  have HG2 := Lib.hid ho2'.view
  clear hb2 ho2' c0 c1 c2 c3
  go_wp2_with fail
  refine (HTI1.out w2 (HMV1.out w2 K2.out)).mono ?_
  rintro e p1 ⟨y1, rfl, hoy1, hbp1⟩
  have KP1 := Lib.hid (bth K2.out hbp1 (Nat.le_refl _))
  have HGP1 := Lib.hid (HG2.out.below hbp1)
  have HYP1_1 := Lib.hid (RowR.of_own hoy1)
  clear hoy1 hbp1
  go_wp2_with fail
  refine (HTI2.out p1 (HMV2.out p1 KP1.out)).mono ?_
  rintro e p2 ⟨y2, rfl, hoy2, hbp2⟩
  have KP2 := Lib.hid (bth KP1.out hbp2 (Nat.le_refl _))
  have HGP2 := Lib.hid (HGP1.out.below hbp2)
  have HYP1_2 := Lib.hid (HYP1_1.out.below hbp2)
  have HYP2_2 := Lib.hid (RowV.of_own hoy2)
  clear hoy2 hbp2
  go_wp2_with fail
  refine (HSP.out p2 v2 y1 y2 HGP2.out HYP1_2.out HYP2_2.out).mono ?_
  rintro e w3 ⟨v3, rfl, hw3, hb3⟩
  have K3 := Lib.hid (bth KP2.out hb3 (Nat.le_refl _))
  have HW := Lib.hid hw3
  have sa3 := K3.out.size
  clear hb3 hw3
  obtain ⟨c0, c1, c2, c3⟩ := (P0.out.below K3.out hlt0).cells
  -- copies of the arguments
  go_wp2_with fail
  refine (HTO.out w3 (HPV.out w3 K3.out)).mono ?_
  rintro e w4 ⟨v4, rfl, ho4, hb4⟩
  have s34 := hb4.size
  have HO4 := Lib.hid ho4
  obtain ⟨bn, dn, bo, do', bb, db, br, dr, rfl⟩ := ho4.slices
  obtain ⟨wb, hwb⟩ : ∃ wb, wb = w4.alloc (.cells #[.slice bn ls.length dn, .slice bo l.length do', .slice bb bs.length db, .slice br rs.length dr] 30) := ⟨_, rfl⟩
  have X4 : Hid (Blk4 wb w4.heap.size 30 (.slice bn ls.length dn) (.slice bo l.length do') (.slice bb bs.length db) (.slice br rs.length dr)) := by rw [hwb]; exact Blk4.new
  have hAB : Below w4.heap.size w4 wb := by rw [hwb]; exact (Below.refl w4.heap.size w4).alloc (Nat.le_refl _) _
  have hsb : wb.heap.size = w4.heap.size + 1 := by rw [hwb]; simp
  have D4 := Lib.hid (Below.refl wb.heap.size wb)
  have A4 := Lib.hid (bth hb4 hAB (Nat.le_refl _))
  have E4 := Lib.hid hAB
  have KW4 := Lib.hid (bth (bth K3.out hb4 (Nat.le_refl _)) hAB (Nat.le_refl _))
  have HWB := Lib.hid hwb
  clear hb4 ho4 c0 c1 c2 c3 hwb hAB
  go_wp2_with fail
  rw [← HWB.out]

  refine (HTI1.out wb (HMV1.out wb KW4.out)).mono ?_
  rintro e q1 ⟨x1, rfl, hox1, hbq1⟩
  have sq1 := hbq1.size
  have EQ1 := Lib.hid (bth E4.out hbq1 (Nat.le_refl _))
  have DQ1 := Lib.hid (bth D4.out hbq1 (Nat.le_refl _))
  have AQ1 := Lib.hid (bth A4.out hbq1 (Nat.le_refl _))
  have KQ1 := Lib.hid (bth KW4.out hbq1 (Nat.le_refl _))
  have hxl1 : Hid (∀ b, x1.ownBlock = some b → wb.heap.size ≤ b ∧ b < q1.heap.size) := fun b h => hox1.lt b h
  have HX1_1 := Lib.hid hox1
  clear hox1 hbq1
  go_wp2_with fail
  refine (HTI2.out q1 (HMV2.out q1 KQ1.out)).mono ?_
  rintro e q2 ⟨x2, rfl, hox2, hbq2⟩
  have sq2 := hbq2.size
  have EQ2 := Lib.hid (bth EQ1.out hbq2 (Nat.le_refl _))
  have DQ2 := Lib.hid (bth DQ1.out hbq2 (Nat.le_refl _))
  have AQ2 := Lib.hid (bth AQ1.out hbq2 (Nat.le_refl _))
  have KQ2 := Lib.hid (bth KQ1.out hbq2 (Nat.le_refl _))
  have hxl2 : Hid (∀ b, x2.ownBlock = some b → q1.heap.size ≤ b ∧ b < q2.heap.size) := fun b h => hox2.lt b h
  have HX1_2 := Lib.hid (own_belowG HX1_1.out hbq2)
  have HX2_2 := Lib.hid hox2
  clear hox2 hbq2
  obtain ⟨x00, x01, x02, x03⟩ := (X4.out.below DQ2.out (by omega)).cells
  -- the program's answer
  go_wp2_with fail
  refine (HIM.out q2 _ x1 x2 (HO4.out.view.below EQ2.out) (RowR.of_own HX1_2.out) (RowV.of_own HX2_2.out)).mono ?_
  rintro e w6 ⟨v6, rfl, hg6, hb6⟩
  have s6 := hb6.size
  have E6 := Lib.hid (bth EQ2.out hb6 (Nat.le_refl _))
  have D6 := Lib.hid (bth DQ2.out hb6 (Nat.le_refl _))
  have A6 := Lib.hid (bth AQ2.out hb6 (Nat.le_refl _))
  have K6 := Lib.hid (bth KQ2.out hb6 (Nat.le_refl _))
  have HX1_6 := Lib.hid (own_belowG HX1_2.out hb6)
  have HX2_6 := Lib.hid (own_below HX2_2.out hb6)
  have HG6 := Lib.hid hg6
  obtain ⟨g1, e1, rfl⟩ := own_sliceG hg6
  obtain ⟨g3, e3, hv3⟩ := own_sliceG HW.out
  subst hv3
  clear hb6 x00 x01 x02 x03 hg6
  go_wp2_with fail
  refine (HEQ.out w6 _ _ (RowR.of_own HG6.out) (RowR.of_own (own_belowG HW.out A6.out))).mono ?_
  rintro e w7 ⟨rfl, hb7⟩
  have s7 := hb7.size
  have E7 := Lib.hid (bth E6.out hb7 (Nat.le_refl _))
  have D7 := Lib.hid (bth D6.out hb7 (Nat.le_refl _))
  have A7 := Lib.hid (bth A6.out hb7 (Nat.le_refl _))
  have K7 := Lib.hid (bth K6.out hb7 (Nat.le_refl _))
  have HG7 := Lib.hid (own_belowG HG6.out hb7)
  have HX1_7 := Lib.hid (own_belowG HX1_6.out hb7)
  have HX2_7 := Lib.hid (own_below HX2_6.out hb7)
  clear hb7 HG6
  have hlt7 : w.heap.size < w7.heap.size := by omega
  have hlt8 : w4.heap.size < w7.heap.size := by omega
  have PD : Hid (Blk4 w7.drew w.heap.size 76 (.slice an ls.length cn) (.slice ao l.length co) (.slice as0 bs.length cs) (.slice ar rs.length cr)) := P0.out.below (Below.drew K7.out) hlt0
  have XD : Hid (Blk4 w7.drew w4.heap.size 30 (.slice bn ls.length dn) (.slice bo l.length do') (.slice bb bs.length db) (.slice br rs.length dr)) := X4.out.below (Below.drew D7.out) (by omega)
  have ks := And.intro PD.out.cells XD.out.cells
  have HX7 : Hid (PlanV w7.drew (.agg #[.slice bn ls.length dn, .slice bo l.length do', .slice bb bs.length db, .slice br rs.length dr]) ls l bs rs) := HO4.out.view.below (Below.drew E7.out)
  have HST7 : Hid (PlanV w7.drew (.agg #[.slice an ls.length cn, .slice ao l.length co, .slice as0 bs.length cs, .slice ar rs.length cr]) ls l bs rs) := HPV.out w7.drew (Below.drew K7.out)
  go_wp2_with fail
  -- the copy is as it was
  go_region_held3 (fun w' => (w'.cell? ⟨w.heap.size, 0, none⟩ = some (.slice an ls.length cn) ∧ w'.cell? ⟨w.heap.size, 1, none⟩ = some (.slice ao l.length co) ∧ w'.cell? ⟨w.heap.size, 2, none⟩ = some (.slice as0 bs.length cs) ∧ w'.cell? ⟨w.heap.size, 3, none⟩ = some (.slice ar rs.length cr)) ∧ (w'.cell? ⟨w4.heap.size, 0, none⟩ = some (.slice bn ls.length dn) ∧ w'.cell? ⟨w4.heap.size, 1, none⟩ = some (.slice bo l.length do') ∧ w'.cell? ⟨w4.heap.size, 2, none⟩ = some (.slice bb bs.length db) ∧ w'.cell? ⟨w4.heap.size, 3, none⟩ = some (.slice br rs.length dr))) (first | exact ks)
    (first
      | (go_at_call 55; refine (HTO.out _ (by exact HST7.out)).mono ?_; rintro e w7b ⟨v7, rfl, ho7, hb7⟩
         have ks := And.intro (PD.out.below hb7 hlt7).cells (XD.out.below hb7 hlt8).cells
         have HO7 := Lib.hid ho7.view
         have HXB := Lib.hid (PlanV.below (by exact HX7.out) hb7)
         have C7 := Lib.hid hb7
         clear ho7 hb7)
      | (go_at_call 58; refine (HE.out _ _ _ (by exact HXB.out) (by exact HO7.out)).mono ?_; rintro e w8 ⟨rfl, hb8⟩
         have C8 := Lib.hid (bth C7.out hb8 (Nat.le_refl _))
         have ks := And.intro (PD.out.below C8.out hlt7).cells (XD.out.below C8.out hlt8).cells
         clear hb8))
  all_goals
    have s8 : w7.heap.size ≤ w8.heap.size := C8.out.size
    have K8 := Lib.hid (bth (Below.drew K7.out) C8.out (Nat.le_refl _))
    have E8 := Lib.hid (bth (Below.drew E7.out) C8.out (Nat.le_refl _))
    have D8 := Lib.hid (bth (Below.drew D7.out) C8.out (Nat.le_refl _))
    have A8 := Lib.hid (bth (Below.drew A7.out) C8.out (Nat.le_refl _))
    have HG8 := Lib.hid (own_belowG (w := w7.drew) (show w7.drew.ownsRow q2.heap.size 41 2 _ _ _ from HG7.out) C8.out)
    have HX1_8 := Lib.hid (own_belowG (w := w7.drew) (show w7.drew.ownsRow wb.heap.size 41 2 _ _ _ from HX1_7.out) C8.out)
    have HX2_8 := Lib.hid (own_below (w := w7.drew) (show w7.drew.ownsRow q1.heap.size 9 1 _ _ _ from HX2_7.out) C8.out)
    clear ks PD XD HX7 HST7 HO7 HXB C7 C8 HG7
    go_wp2_with fail
    refine (HTI1.out w8 (HMV1.out w8 K8.out)).mono ?_
    rintro e r1 ⟨z1, rfl, hoz1, hbr1⟩
    have sr1 := hbr1.size
    have KR1 := Lib.hid (bth K8.out hbr1 (Nat.le_refl _))
    have ER1 := Lib.hid (bth E8.out hbr1 (Nat.le_refl _))
    have DR1 := Lib.hid (bth D8.out hbr1 (Nat.le_refl _))
    have AR1 := Lib.hid (bth A8.out hbr1 (Nat.le_refl _))
    have HGR1 := Lib.hid (own_belowG HG8.out hbr1)
    have HX1_R1 := Lib.hid (own_belowG HX1_8.out hbr1)
    have HX2_R1 := Lib.hid (own_below HX2_8.out hbr1)
    have HZ1 := Lib.hid (RowR.of_own hoz1)
    clear hoz1 hbr1
    go_wp2_with fail
    refine (HEI1.out r1 _ _ (RowR.of_own HX1_R1.out) HZ1.out).mono ?_
    rintro e s1 ⟨rfl, hbs1⟩
    have ss1 := hbs1.size
    have KS1 := Lib.hid (bth KR1.out hbs1 (Nat.le_refl _))
    have ES1 := Lib.hid (bth ER1.out hbs1 (Nat.le_refl _))
    have DS1 := Lib.hid (bth DR1.out hbs1 (Nat.le_refl _))
    have AS1 := Lib.hid (bth AR1.out hbs1 (Nat.le_refl _))
    have HGS1 := Lib.hid (own_belowG HGR1.out hbs1)
    have HX1_S1 := Lib.hid (own_belowG HX1_R1.out hbs1)
    have HX2_S1 := Lib.hid (own_below HX2_R1.out hbs1)
    clear hbs1 HZ1
    go_wp2_with fail
    refine (HTI2.out s1 (HMV2.out s1 KS1.out)).mono ?_
    rintro e r2 ⟨z2, rfl, hoz2, hbr2⟩
    have sr2 := hbr2.size
    have KR2 := Lib.hid (bth KS1.out hbr2 (Nat.le_refl _))
    have ER2 := Lib.hid (bth ES1.out hbr2 (Nat.le_refl _))
    have DR2 := Lib.hid (bth DS1.out hbr2 (Nat.le_refl _))
    have AR2 := Lib.hid (bth AS1.out hbr2 (Nat.le_refl _))
    have HGR2 := Lib.hid (own_belowG HGS1.out hbr2)
    have HX1_R2 := Lib.hid (own_belowG HX1_S1.out hbr2)
    have HX2_R2 := Lib.hid (own_below HX2_S1.out hbr2)
    have HZ2 := Lib.hid (RowV.of_own hoz2)
    clear hoz2 hbr2
    go_wp2_with fail
    refine (HEI2.out r2 _ _ (RowV.of_own HX2_R2.out) HZ2.out).mono ?_
    rintro e s2 ⟨rfl, hbs2⟩
    have ss2 := hbs2.size
    have KS2 := Lib.hid (bth KR2.out hbs2 (Nat.le_refl _))
    have ES2 := Lib.hid (bth ER2.out hbs2 (Nat.le_refl _))
    have DS2 := Lib.hid (bth DR2.out hbs2 (Nat.le_refl _))
    have AS2 := Lib.hid (bth AR2.out hbs2 (Nat.le_refl _))
    have HGS2 := Lib.hid (own_belowG HGR2.out hbs2)
    have HX1_S2 := Lib.hid (own_belowG HX1_R2.out hbs2)
    have HX2_S2 := Lib.hid (own_below HX2_R2.out hbs2)
    clear hbs2 HZ2
    obtain ⟨y0, y1', y2, y3⟩ := (X4.out.below DS2.out (by omega)).cells
    -- marks in the copies
    go_wp2_with fail
    refine (HMG.out w3.heap.size _ w4 s2 HO4.out ES2.out s34).mono ?_
    rintro e w9 ⟨rfl, hg9⟩
    have s9 := hg9.below.size
    have A9 := Lib.hid (AS2.out.trans hg9.below)
    have K9 := Lib.hid (KS2.out.trans (hg9.below.mono sa3))
    have HG9 := Lib.hid (hg9.own HGS2.out (by omega))
    have HX1_9 := Lib.hid (hg9.own HX1_S2.out (by omega))
    have HX2_9 := Lib.hid (hg9.own HX2_S2.out (by omega))
    clear hg9 y0 y1' y2 y3
    go_wp2_with fail
    refine (HMM1.out wb.heap.size _ w9 HX1_9.out).mono ?_
    rintro e t1 ⟨rfl, _, hgt1⟩
    have st1 := hgt1.size
    have hbt1 := below_ownG HX1_9.out hgt1 (by omega)
    have AT1 := Lib.hid (A9.out.trans (hbt1.mono (by omega)))
    have KT1 := Lib.hid (K9.out.trans (hbt1.mono (by omega)))
    have HGT1 := Lib.hid (own_apartG HG9.out hgt1 (fun b h1 h2 => by have := (hxl1.out b h1).2; have := (HG9.out.lt b h2).1; omega))
    have HX2_T1 := Lib.hid (own_apartG HX2_9.out hgt1 (fun b h1 h2 => by have := (hxl1.out b h1).2; have := (HX2_9.out.lt b h2).1; omega))
    clear hgt1 hbt1
    rw [HEK1.out]
    go_wp2_with fail
    refine (HMM2.out q1.heap.size _ t1 HX2_T1.out).mono ?_
    rintro e t2 ⟨rfl, _, hgt2⟩
    have st2 := hgt2.size
    have hbt2 := below_ownG HX2_T1.out hgt2 (by omega)
    have AT2 := Lib.hid (AT1.out.trans (hbt2.mono (by omega)))
    have KT2 := Lib.hid (KT1.out.trans (hbt2.mono (by omega)))
    have HGT2 := Lib.hid (own_apartG HGT1.out hgt2 (fun b h1 h2 => by have := (hxl2.out b h1).2; have := (HGT1.out.lt b h2).1; omega))
    clear hgt2 hbt2
    rw [HEK2.out]
    go_wp2_with fail
    refine (HEQ.out t2 _ _ (RowR.of_own HGT2.out) (RowR.of_own (own_belowG HW.out AT2.out))).mono ?_
    rintro e w10 ⟨rfl, hb10⟩
    have s10 := hb10.size
    have A10 := Lib.hid (bth AT2.out hb10 (Nat.le_refl _))
    have K10 := Lib.hid (bth KT2.out hb10 (Nat.le_refl _))
    have HG10 := Lib.hid (own_belowG HGT2.out hb10)
    clear hb10
    -- marks in the answer
    go_wp2_with fail
    refine (HMI.out q2.heap.size _ w10 HG10.out).mono ?_
    rintro e w11 ⟨rfl, ho11, hg11⟩
    have hbb := below_ownG HG10.out hg11 (by omega)
    have s11 := hg11.size
    have A11 := Lib.hid (A10.out.trans (hbb.mono (by omega)))
    have K11 := Lib.hid (K10.out.trans (hbb.mono (by omega)))
    have HM11 := Lib.hid ho11
    clear ho11 hg11 hbb HG10
    go_wp2_with fail
    refine (HHI.out _ w11 (by exact heldRow_R HM11.out)).mono ?_
    rintro e w12 ⟨rfl, hb12⟩
    have A12 := Lib.hid (bth A11.out hb12 (Nat.le_refl _))
    have K12 := Lib.hid (bth K11.out hb12 (Nat.le_refl _))
    have HM12 := Lib.hid (own_belowG HM11.out hb12)
    clear hb12 HM11
    obtain ⟨c0, c1, c2, c3⟩ := (P0.out.below K12.out hlt0).cells
    -- asked again
    go_wp2_with fail
    refine (HTO.out w12 (HPV.out w12 K12.out)).mono ?_
    rintro e w13 ⟨v13, rfl, ho13, hb13⟩
    have A13 := Lib.hid (bth A12.out hb13 (Nat.le_refl _))
    have K13 := Lib.hid (bth K12.out hb13 (Nat.le_refl _))
    have HM13 := Lib.hid (own_belowG HM12.out hb13)
    have HGZ0 := Lib.hid ho13.view
    clear hb13 ho13 c0 c1 c2 c3 HM12
    go_wp2_with fail
    refine (HTI1.out w13 (HMV1.out w13 K13.out)).mono ?_
    rintro e z1 ⟨yz1, rfl, hoz1, hbz1⟩
    have AZ1 := Lib.hid (bth A13.out hbz1 (Nat.le_refl _))
    have KZ1 := Lib.hid (bth K13.out hbz1 (Nat.le_refl _))
    have HMZ1 := Lib.hid (own_belowG HM13.out hbz1)
    have HGZ1 := Lib.hid (HGZ0.out.below hbz1)
    have HYZ1_1 := Lib.hid (RowR.of_own hoz1)
    clear hoz1 hbz1
    go_wp2_with fail
    refine (HTI2.out z1 (HMV2.out z1 KZ1.out)).mono ?_
    rintro e z2 ⟨yz2, rfl, hoz2, hbz2⟩
    have AZ2 := Lib.hid (bth AZ1.out hbz2 (Nat.le_refl _))
    have KZ2 := Lib.hid (bth KZ1.out hbz2 (Nat.le_refl _))
    have HMZ2 := Lib.hid (own_belowG HMZ1.out hbz2)
    have HGZ2 := Lib.hid (HGZ1.out.below hbz2)
    have HYZ1_2 := Lib.hid (HYZ1_1.out.below hbz2)
    have HYZ2_2 := Lib.hid (RowV.of_own hoz2)
    clear hoz2 hbz2
    go_wp2_with fail
    refine (HIM.out z2 v13 yz1 yz2 HGZ2.out HYZ1_2.out HYZ2_2.out).mono ?_
    rintro e w14 ⟨v14, rfl, ho14, hb14⟩
    have A14 := Lib.hid (bth AZ2.out hb14 (Nat.le_refl _))
    have K14 := Lib.hid (bth KZ2.out hb14 (Nat.le_refl _))
    have HM14 := Lib.hid (own_belowG HMZ2.out hb14)
    have HV14 := Lib.hid (RowR.of_own ho14)
    obtain ⟨g14, e14, rfl⟩ := own_sliceG ho14
    clear hb14 ho14
    go_wp2_with fail
    refine (HEQ.out w14 _ _ HV14.out (RowR.of_own (own_belowG HW.out A14.out))).mono ?_
    rintro e w15 ⟨rfl, hb15⟩
    have K15 := Lib.hid (bth K14.out hb15 (Nat.le_refl _))
    have HM15 := Lib.hid (own_belowG HM14.out hb15)
    clear hb15 HM14 HV14
    go_wp2_with fail
    refine (HHI.out _ w15 (by exact heldRow_R HM15.out)).mono ?_
    rintro e w16 ⟨rfl, hb16⟩
    have K16 := Lib.hid (bth K15.out hb16 (Nat.le_refl _))
    clear hb16
    go_wp2_with fail
    go_ret
    exact ⟨rfl, bth HA.out K16.out (Nat.le_refl _)⟩

end Go.Proofs.YtcfhfhpdnjaokaaGreatDoor

/- What is put behind an empty literal: new memory, if it is something. -/
namespace Go.Proofs.YtcfhfhpdnjaokaaGreatDoor
open Go.RowKit Pth

/-- What an append to the empty literal at block g leaves. -/
def LitTold (e size : Nat) (w : World) (g m : Nat) (ys : List Value) (v' : Value) (w' : World) : Prop :=
  (m = 0 ∧ v' = .slice (some ⟨g, 0, none⟩) 0 0 ∧ w' = w) ∨ (0 < m ∧ w'.ownsRow w.heap.size e size v' m ys)

theorem run_app_lit {t e : TypeId} {z : Value} {size bytes : Nat} (E : ElemG t e z size bytes) (w : World) (g : Nat) (ty : TypeId) (m : Nat) (ys : List Value) (A : Option Addr) (c : Nat) (hrow : RowG size w (.slice A m c) m ys) (hlen : m ≤ 1000000) :
    ∃ v' w', (Builtin.append_ #[t, t] ty #[.slice (some ⟨g, 0, none⟩) 0 0, .slice A m c]).run Tryz.prog w = .ok v' w' ∧ Below w.heap.size w w' ∧ LitTold e size w g m ys v' w' := by
  obtain ⟨i0, hi, hz0, hz1, hz2⟩ := info_parts E.info
  obtain ⟨A', c', hv, h0, h1, h2, hat⟩ := hrow
  injection hv with hA _ _
  subst hA
  rcases m with _ | m
  · refine ⟨_, w, ?_, Below.refl _ _, .inl ⟨rfl, rfl, rfl⟩⟩
    rcases A with _ | ad
    · simp [Builtin.append_, run_underlying E.under, sizeOf, typeInfo, hi, Builtin.lenOf, Builtin.firstCells, storeCells]
    · simp [Builtin.append_, run_underlying E.under, sizeOf, typeInfo, hi, Builtin.lenOf, Builtin.firstCells, storeCells, loadCells, loadCellsFrom]
  · have hpos : 0 < ys.length := by
      have := E.pos
      rw [h0, Nat.add_mul]
      omega
    obtain ⟨g2, o2, rfl, _, _⟩ := hat 0 hpos
    have hnews : ∀ j u, ys[j]? = some u → w.cell? ((⟨g2, o2, none⟩ : Addr).add j) = some u := by
      intro j u hu
      obtain ⟨hj, hu⟩ := List.getElem?_eq_some_iff.1 hu
      obtain ⟨g', o', he, _, hc⟩ := hat j hj
      obtain ⟨rfl, rfl⟩ := addr_inj he
      rw [add_addr, hc, hu]
    subst hz1
    subst hz2
    have hr := run_append_grow (P := Tryz.prog) w t ty e i0 z E.under hi hz0 ⟨g, 0, none⟩ 0 0 [] (by simp) (by simp) ⟨g2, o2, none⟩ (m + 1) c ys h0 hnews (by omega) (by omega) (growslice_fits (by omega) (by have := Nat.mul_le_mul hlen E.small; rw [Nat.zero_add]; omega))
    rw [Nat.zero_add] at hr
    have hge := grownCap_ge w (m + 1) 0 e
    refine ⟨_, _, hr, ?_, .inr ⟨by omega, ⟨h0, .inr ⟨w.heap.size, _, _, rfl, Nat.le_refl _, heap_alloc_new w.drew _, ?_, ?_, ?_, ?_⟩⟩⟩⟩
    · exact (Below.drew (Below.refl _ w)).alloc (by simp) _
    · exact hge
    · exact grownCap_le_maxLen w _ _ e (by unfold maxLen; omega)
    · rw [Array.size_append, Array.size_append, size_zeroCells, E.cells, List.size_toArray, List.size_toArray, h0, List.length_nil, Nat.zero_add, ← Nat.add_mul, Nat.add_sub_cancel' hge]
    · rw [← h0]
      simp

theorem step_lit {t e : TypeId} {z : Value} {size bytes : Nat} (E : ElemG t e z size bytes) {ops : Array Oper} {o : Oper} {a : Act} {K : Act → World → Prop} {Q : Exit → Act → World → Prop} {F : Prop} {w : World} (hgd : o.guard = none) (s x : Operand)
    (ho : o.op = .call { callee := .builtin .append, args := #[s, x], argTypes := #[t, t] }) (g m : Nat) (ys : List Value) (u : Value) (hs : a.eval s = .slice (some ⟨g, 0, none⟩) 0 0) (hx : a.eval x = u) (hrow : RowG size w u m ys) (hlen : m ≤ 1000000)
    (h : ∀ v' w', Below w.heap.size w w' → LitTold e size w g m ys v' w' → K (a.put o.dst v') w') :
    if Region.wanted o (yielded ops a.tmps) = true then Oper.wp Tryz.prog o a w K Q else F := by
  have hw : Region.wanted o (yielded ops a.tmps) = true := by simp [Region.wanted, hgd]
  rw [if_pos hw]
  obtain ⟨A, c, hu, _⟩ := id hrow
  subst hu
  obtain ⟨v', w', hrun, h2, h3⟩ := run_app_lit E w g o.type m ys A c hrow hlen
  unfold Oper.wp execOp
  simp only [ho, resolve, invoke, builtin, Sem.run_bind, Sem.run_pure, Result.andThen_ok, List.map_toArray, List.map_cons, List.map_nil, hs, hx, hrun]
  exact h v' w' h2 h3

end Go.Proofs.YtcfhfhpdnjaokaaGreatDoor

/- What is touched, needed, ready, closed, as answers; IsClosed and ReadyWith of the program. -/
namespace Go.Proofs.YtcfhfhpdnjaokaaGreatDoor
open Go.RowKit Pth

/-- A good graph, and rising tasks of it. -/
noncomputable def someG (ls : List (List Int)) (l cs : List Int) : Bool := goodG ls l && riseB 0 ((ls.length : Int) - 1) cs
theorem some_eq (ls : List (List Int)) (l cs : List Int) : (goodG ls l && riseB 0 ((ls.length : Int) - 1) cs) = someG ls l cs := rfl
theorem some_eq2 (ls : List (List Int)) (l cs ds : List Int) : (goodG ls l && riseB 0 ((ls.length : Int) - 1) cs && riseB 0 ((ls.length : Int) - 1) ds) = (someG ls l cs && someG ls l ds) := by
  unfold someG
  cases goodG ls l <;> simp
theorem some_yes {ls : List (List Int)} {l cs : List Int} (h : someG ls l cs = true) : GoodG ls l ∧ (Rise cs ∧ ∀ x ∈ cs, 0 ≤ x ∧ x < (ls.length : Int)) := by
  unfold someG at h
  rw [Bool.and_eq_true] at h
  have := riseB_iff.1 h.2
  exact ⟨goodG_iff.1 h.1, this.1, fun x hx => by have := this.2 x hx; omega⟩
theorem some_yes2 {ls : List (List Int)} {l cs ds : List Int} (h : (someG ls l cs && someG ls l ds) = true) : GoodG ls l ∧ (Rise cs ∧ ∀ x ∈ cs, 0 ≤ x ∧ x < (ls.length : Int)) ∧ (Rise ds ∧ ∀ x ∈ ds, 0 ≤ x ∧ x < (ls.length : Int)) := by
  rw [Bool.and_eq_true] at h
  exact ⟨(some_yes h.1).1, (some_yes h.1).2, (some_yes h.2).2⟩
/-- One that is not among some, and all that it needs is. -/
def readyP (ls : List (List Int)) (cs : List Int) (k : Int) : Bool := !hasL cs k && !(needsAt ls k).any (fun x => !hasL cs x)
noncomputable def touchA_v (ls : List (List Int)) (_l cs : List Int) : List Int := touchS ls cs
noncomputable def touchA (ls : List (List Int)) (l cs : List Int) : List Int := if someG ls l cs then touchA_v ls l cs else []
theorem touchA_no {ls : List (List Int)} {l cs : List Int} (h : someG ls l cs = false) : touchA ls l cs = [] := by unfold touchA; rw [h]; rfl
theorem touchA_yes {ls : List (List Int)} {l cs : List Int} (h : someG ls l cs = true) : touchA ls l cs = touchA_v ls l cs := by unfold touchA; rw [h]; rfl
theorem touchA_short (ls : List (List Int)) (l cs : List Int) : (touchA ls l cs).length ≤ 1000000 := by
  rcases h : someG ls l cs with _ | _
  · rw [touchA_no h]; simp
  · rw [touchA_yes h]
    have h1 := (some_yes h).1.high
    exact Nat.le_trans (touchS_len ls cs) (by omega)
noncomputable def needA_v (ls : List (List Int)) (_l cs : List Int) : List Int := needS ls cs
noncomputable def needA (ls : List (List Int)) (l cs : List Int) : List Int := if someG ls l cs then needA_v ls l cs else []
theorem needA_no {ls : List (List Int)} {l cs : List Int} (h : someG ls l cs = false) : needA ls l cs = [] := by unfold needA; rw [h]; rfl
theorem needA_yes {ls : List (List Int)} {l cs : List Int} (h : someG ls l cs = true) : needA ls l cs = needA_v ls l cs := by unfold needA; rw [h]; rfl
theorem needA_short (ls : List (List Int)) (l cs : List Int) : (needA ls l cs).length ≤ 1000000 := by
  rcases h : someG ls l cs with _ | _
  · rw [needA_no h]; simp
  · rw [needA_yes h]
    have h1 := (some_yes h).1.high
    exact Nat.le_trans (needS_len ls cs) (by omega)
noncomputable def readyA_v (ls : List (List Int)) (_l cs : List Int) : List Int := (upto ls.length).filter (readyP ls cs)
noncomputable def readyA (ls : List (List Int)) (l cs : List Int) : List Int := if someG ls l cs then readyA_v ls l cs else []
theorem readyA_no {ls : List (List Int)} {l cs : List Int} (h : someG ls l cs = false) : readyA ls l cs = [] := by unfold readyA; rw [h]; rfl
theorem readyA_yes {ls : List (List Int)} {l cs : List Int} (h : someG ls l cs = true) : readyA ls l cs = readyA_v ls l cs := by unfold readyA; rw [h]; rfl
theorem readyA_short (ls : List (List Int)) (l cs : List Int) : (readyA ls l cs).length ≤ 1000000 := by
  rcases h : someG ls l cs with _ | _
  · rw [readyA_no h]; simp
  · rw [readyA_yes h]
    have h1 := (some_yes h).1.high
    exact Nat.le_trans (Nat.le_trans (List.length_filter_le _ _) (Nat.le_of_eq (upto_len _))) (by omega)
noncomputable def shutA_v (ls : List (List Int)) (_l cs : List Int) : Bool := shutB ls cs
noncomputable def shutA (ls : List (List Int)) (l cs : List Int) : Bool := if someG ls l cs then shutA_v ls l cs else false
theorem shutA_no {ls : List (List Int)} {l cs : List Int} (h : someG ls l cs = false) : shutA ls l cs = false := by unfold shutA; rw [h]; rfl
theorem shutA_yes {ls : List (List Int)} {l cs : List Int} (h : someG ls l cs = true) : shutA ls l cs = shutA_v ls l cs := by unfold shutA; rw [h]; rfl
/-- Two yes-or-noes. -/
def PairOk (p b : Bool) (w : World) (e : Ending) (w' : World) : Prop := e = .returned (.tuple #[.bool p, .bool b]) ∧ Below w.heap.size w w'
theorem shut_yes {ls : List (List Int)} {cs : List Int} (h : Pth.Shut ls cs) : shutB ls cs = true := by unfold shutB; exact @decide_eq_true _ (Classical.propDecidable _) h
theorem shut_no {ls : List (List Int)} {cs : List Int} (h : ¬ Pth.Shut ls cs) : shutB ls cs = false := by unfold shutB; exact @decide_eq_false _ (Classical.propDecidable _) h
theorem any_has {l cs : List Int} : l.any (hasL cs) = true ↔ ∃ x ∈ l, x ∈ cs := by
  rw [List.any_eq_true]
  constructor
  · rintro ⟨x, hx, h⟩; exact ⟨x, hx, by simpa [hasL] using h⟩
  · rintro ⟨x, hx, h⟩; exact ⟨x, hx, by simpa [hasL] using h⟩

end Go.Proofs.YtcfhfhpdnjaokaaGreatDoor

/- Walks: tests that leave the world as it was; ReadyWith of the program. -/
namespace Go.Proofs.YtcfhfhpdnjaokaaGreatDoor
open Go.RowKit Pth

theorem GraphV.parts {w : World} {a b : Value} {ls : List (List Int)} {l : List Int} (h : GraphV w (.agg #[a, b]) ls l) : RowN w a ls ∧ RowV w b (I l) := by
  obtain ⟨nv, ov, hv, h1, h2⟩ := h
  injection hv with hv
  simp only [Array.mk.injEq, List.cons.injEq, and_true] at hv
  obtain ⟨rfl, rfl⟩ := hv
  exact ⟨h1, h2⟩
/-- A yes-or-no, and the world is as it was. -/
def BoolS (b : Bool) (w : World) (e : Ending) (w' : World) : Prop := e = .returned (.bool b) ∧ w' = w
/-- A function value that tells of each number of D whether p holds, and only reads. -/
def TestS (w0 : World) (fv : Value) (D : Int → Prop) (p : Int → Bool) : Prop :=
  ∃ K cap, fv = .func (.func K) #[] cap ∧ (∀ args w, (callFunc K args).run Tryz.prog w = .ok (.enter K args) w) ∧ ∀ W, Below w0.heap.size w0 W → ∀ x, D x → Calls Tryz.prog K (#[.int .i64 x] ++ cap) W (BoolS (p x) W)
theorem TestS.below {w w' : World} {fv : Value} {D : Int → Prop} {p : Int → Bool} (h : TestS w fv D p) (hb : Below w.heap.size w w') : TestS w' fv D p := by
  obtain ⟨K, cap, h1, h2, h3⟩ := h
  exact ⟨K, cap, h1, h2, fun W hW x hx => h3 W (bth hb hW (Nat.le_refl _)) x hx⟩
theorem TestS.toV {w : World} {fv : Value} {D : Int → Prop} {p : Int → Bool} (h : TestS w fv D p) : TestV w fv D p := by
  obtain ⟨K, cap, h1, h2, h3⟩ := h
  exact ⟨K, cap, h1, h2, fun W hW x hx => (h3 W hW x hx).mono fun e w' ⟨he, hw⟩ => ⟨he, by rw [hw]; exact Below.refl _ _⟩⟩

/-- A place, or a number below 0 where there is none; the world is as it was. -/
def PlaceS (b : Bool) (w : World) (e : Ending) (w' : World) : Prop := ∃ i : Int, e = .returned (.int .i64 i) ∧ (0 ≤ i ↔ b = true) ∧ w' = w

set_option maxRecDepth 20000 in
set_option maxHeartbeats 2000000 in
theorem indexFuncS_any (l : List Int) (p : Int → Bool) (D : Int → Prop) (v fv : Value) (w : World) (hrow : RowV w v (I l)) (ht : TestS w fv D p) (hD : ∀ x ∈ l, D x) :
    Calls Tryz.prog 185 #[v, fv] w (PlaceS (l.any p) w) := by
  obtain ⟨a, cap0, rfl, hc1, hc2, hat⟩ := hrow.ints
  obtain ⟨K, cap, rfl, hent, ht⟩ := ht
  have HT := Lib.hid (fun x hx => ht w (Below.refl _ _) x hx)
  have HAT := Lib.hid hat
  have HD := Lib.hid hD
  clear hrow hat ht hD
  unfold maxLen at hc2
  go_enter Tryz.func185, Tryz.ntmps185
  go_wp2_with fail
  go_loop [8] (fun i => ∃ k : Nat, k ≤ l.length ∧ i = .int .i64 k ∧ Hid ((l.take k).any p = false)) (fun i => l.length - (intOf i).toNat)
  case atStart => exact ⟨0, Nat.zero_le _, by go_num, by simp [Hid]⟩
  case round =>
    obtain ⟨k, hk, rfl, HO⟩ := hrel
    by_cases hlt : k < l.length
    · obtain ⟨g, o, rfl, hg, hcell⟩ := HAT.out k hlt
      have hltz : (k : Int) < (l.length : Int) := by omega
      have HC := HT.out l[k] (HD.out _ (List.getElem_mem hlt))
      rcases hb : p l[k] with _ | _
      · have HS : Hid ((l.take (k + 1)).any p = false) := by
          show _ = _
          rw [List.take_succ_eq_append_getElem hlt, List.any_append, HO.out]
          simp [hb]
        rw [hb] at HC
        have HCC := Lib.hid HC
        clear HC hb HO
        generalize l[k] = x at *
        go_wp2_with fail
        refine HCC.out.mono ?_
        rintro e w1 ⟨rfl, rfl⟩
        go_wp2_with fail
        go_round
        case rel => exact ⟨k + 1, by omega, by go_num, HS⟩
        case measure => simp [intOf]; omega
      · have HS : Hid (l.any p = true) := by
          show _ = _
          rw [List.any_eq_true]
          exact ⟨l[k], List.getElem_mem hlt, hb⟩
        rw [hb] at HC
        have HCC := Lib.hid HC
        clear HC hb HO
        generalize l[k] = x at *
        go_wp2_with fail
        refine HCC.out.mono ?_
        rintro e w1 ⟨rfl, rfl⟩
        go_wp2_with fail
        go_ret
        exact ⟨(k : Int), rfl, by rw [HS.out]; simp, rfl⟩
    · have HS : Hid (l.any p = false) := by
        show _ = _
        have := HO.out
        rwa [List.take_of_length_le (by omega)] at this
      have hltz : ¬ ((k : Int) < (l.length : Int)) := by omega
      clear HO
      go_wp2_with fail
      go_ret
      exact ⟨-1, rfl, by rw [HS.out]; simp, rfl⟩

set_option maxRecDepth 20000 in
set_option maxHeartbeats 1000000 in
theorem containsFuncS_any (l : List Int) (p : Int → Bool) (D : Int → Prop) (v fv : Value) (w : World) (hrow : RowV w v (I l)) (ht : TestS w fv D p) (hD : ∀ x ∈ l, D x) :
    Calls Tryz.prog 156 #[v, fv] w (BoolS (l.any p) w) := by
  have HC := Lib.hid (indexFuncS_any l p D v fv w hrow ht hD)
  clear hrow ht hD
  go_enter Tryz.func156, Tryz.ntmps156
  go_wp2_with fail
  refine HC.out.mono ?_
  rintro e w1 ⟨i, rfl, hi, rfl⟩
  have HI := Lib.hid hi
  clear hi HC
  go_wp2_with fail
  go_ret
  refine ⟨?_, rfl⟩
  show Ending.returned (.bool (decide (0 ≤ i))) = _
  congr 2
  rw [Bool.eq_iff_iff, decide_eq_true_eq]
  exact HI.out

/-- A function value is handed back that tells whether p, and only reads. -/
def TestSPost (D : Int → Prop) (p : Int → Bool) (w : World) (e : Ending) (w' : World) : Prop := ∃ fv, e = .returned fv ∧ TestS w' fv D p ∧ Below w.heap.size w w'

end Go.Proofs.YtcfhfhpdnjaokaaGreatDoor

/- Walks: the reference's l6Some, l6Touched, TouchedBy, IsClosed. -/
namespace Go.Proofs.YtcfhfhpdnjaokaaGreatDoor
open Go.RowKit Pth

theorem touch1_in {n : Nat} {k : Int} (hk : 0 ≤ k ∧ k < (n : Int)) (nd : List Int) : ∀ {out : List Int}, (∀ x ∈ out, 0 ≤ x ∧ x < (n : Int)) → ∀ x ∈ touch1 k out nd, 0 ≤ x ∧ x < (n : Int) := by
  induction nd with
  | nil => intro out h; exact h
  | cons a b ih =>
    intro o ho
    refine ih (fun x hx0 => ?_)
    have hx : x ∈ (if hasL o a then putL o k else o) := hx0
    split at hx
    · rcases mem_put.1 hx with rfl | hx
      · exact hk
      · exact ho x hx
    · exact ho x hx
theorem short_in {l : List Int} {n : Nat} (hr : Rise l) (h : ∀ x ∈ l, 0 ≤ x ∧ x < (n : Int)) : l.length ≤ n := by
  have := rise_len (lo := 0) (hi := (n : Int) - 1) hr (fun x hx => by have := h x hx; omega) (by omega)
  omega

set_option maxRecDepth 20000 in
set_option maxHeartbeats 2000000 in
theorem l6Some_any (ls : List (List Int)) (l cs : List Int) (v u : Value) (w : World) (hst : GraphV w v ls l) (hrow : RowV w u (I cs)) :
    Calls Tryz.prog 111 #[v, u] w (BoolB (someG ls l cs) w) := by
  have HV := Lib.hid hst
  obtain ⟨nv, ov, rfl, h1, h2⟩ := hst
  obtain ⟨an, cn, rfl, hn1, hn2, hat⟩ := h1.lists
  obtain ⟨ao, co, rfl, ho1, ho2, hao⟩ := h2.ints
  clear h1 h2
  unfold maxLen at hn2 ho2
  have HAT := Lib.hid hat
  have HAO := Lib.hid hao
  clear hat hao
  obtain ⟨wa, hwa⟩ : ∃ wa, wa = w.alloc (.cells #[.slice an ls.length cn, .slice ao l.length co] 26) := ⟨_, rfl⟩
  have P0 : Hid (Blk2 wa w.heap.size 26 (.slice an ls.length cn) (.slice ao l.length co)) := by rw [hwa]; exact Blk2.new
  have HA : Hid (Below w.heap.size w wa) := by rw [hwa]; exact (Below.refl w.heap.size w).alloc (Nat.le_refl _) _
  have hsa : wa.heap.size = w.heap.size + 1 := by rw [hwa]; simp
  have HSA := Lib.hid hsa
  have hsz : w.heap.size < wa.heap.size := by omega
  have HWA := Lib.hid hwa
  obtain ⟨c0, c1⟩ := P0.out.cells
  have HU := Lib.hid hrow
  obtain ⟨ua, uc, rfl, hu1, hu2, _⟩ := hrow.ints
  clear hrow
  unfold maxLen at hu2
  have HC := specGood_any ls l _ wa (HV.out.below HA.out)
  have HE := Lib.hid (some_eq ls l cs)
  clear hwa
  rcases hG : goodG ls l with _ | _
  · rw [hG] at HC HE
    have HE2 : Hid (someG ls l cs = false) := HE.out.symm
    have HCC := Lib.hid HC
    clear HC hG HE
    go_enter Tryz.func111, Tryz.ntmps111
    go_wp2_with fail
    rw [← HWA.out]
    refine HCC.out.mono ?_
    rintro e w1 ⟨rfl, hb1⟩
    have HB1 := Lib.hid (bth HA.out hb1 (Nat.le_refl _))
    clear hb1 c0 c1
    go_wp2_with fail
    go_ret
    exact ⟨ret_bool HE2.out.symm, HB1.out⟩
  · rw [hG] at HC HE
    have HE2 : Hid (someG ls l cs = riseB 0 ((ls.length : Int) - 1) cs) := HE.out.symm
    have HCC := Lib.hid HC
    have hlow := (goodG_iff.1 hG).low
    have hhi := (goodG_iff.1 hG).high
    clear HC hG HE
    have HR := Lib.hid (fun W (h : Below w.heap.size w W) => l1Rising_any cs 0 ((ls.length : Int) - 1) _ W (HU.out.below h))
    generalize riseB 0 ((ls.length : Int) - 1) cs = b at *
    go_enter Tryz.func111, Tryz.ntmps111
    go_wp2_with fail
    rw [← HWA.out]
    refine HCC.out.mono ?_
    rintro e w1 ⟨rfl, hb1⟩
    have HB1 := Lib.hid (bth HA.out hb1 (Nat.le_refl _))
    have d0 := (P0.out.below hb1 hsz).cells.1
    have HR1 := Lib.hid (HR.out w1 HB1.out)
    clear hb1 c0 c1
    go_wp2_with fail
    refine HR1.out.mono ?_
    rintro e w2 ⟨rfl, rfl⟩
    go_wp2_with fail
    go_ret
    exact ⟨ret_bool HE2.out.symm, HB1.out⟩

set_option maxRecDepth 20000 in
set_option maxHeartbeats 8000000 in
theorem l6Touched_any (ls : List (List Int)) (l cs : List Int) (v u : Value) (w : World) (hst : GraphV w v ls l) (hrow : RowV w u (I cs)) (hG : GoodG ls l) (hr : Rise cs) (hc : ∀ x ∈ cs, 0 ≤ x ∧ x < (ls.length : Int)) :
    Calls Tryz.prog 112 #[v, u] w (IntsPost w.heap.size (touchS ls cs) w) := by
  have HIS := Lib.hid (touchL_is hG.toP hr hc)
  have HV := Lib.hid hst
  obtain ⟨nv, ov, rfl, h1, h2⟩ := hst
  obtain ⟨an, cn, rfl, hn1, hn2, hat⟩ := h1.lists
  obtain ⟨ao, co, rfl, ho1, ho2, hao⟩ := h2.ints
  clear h1 h2
  unfold maxLen at hn2 ho2
  have HAT := Lib.hid hat
  have HAO := Lib.hid hao
  clear hat hao
  obtain ⟨wa, hwa⟩ : ∃ wa, wa = w.alloc (.cells #[.slice an ls.length cn, .slice ao l.length co] 26) := ⟨_, rfl⟩
  have P0 : Hid (Blk2 wa w.heap.size 26 (.slice an ls.length cn) (.slice ao l.length co)) := by rw [hwa]; exact Blk2.new
  have HA : Hid (Below w.heap.size w wa) := by rw [hwa]; exact (Below.refl w.heap.size w).alloc (Nat.le_refl _) _
  have hsa : wa.heap.size = w.heap.size + 1 := by rw [hwa]; simp
  have HSA := Lib.hid hsa
  have hsz : w.heap.size < wa.heap.size := by omega
  have HWA := Lib.hid hwa
  have HU := Lib.hid hrow
  obtain ⟨ua, uc, rfl, hu1, hu2, _⟩ := hrow.ints
  clear hrow
  unfold maxLen at hu2
  have h10 := hG.high
  have hlow := hG.low
  have hsm := hG.same
  have HIN := Lib.hid (good_in hG)
  have HGG := Lib.hid hG
  have HSL := Lib.hid hsm
  have hl10 : l.length ≤ 10 := by omega
  have hcl : cs.length ≤ 10 := by have := short_in hr hc; omega
  have HCR := Lib.hid hr
  have HCI := Lib.hid hc
  clear hG hsm hr hc
  obtain ⟨qa, qc, w1, run1, o1, b1⟩ := lit_row cs ua uc wa _ rfl (HU.out.below HA.out) (by omega) 24
  have HRUN := Lib.hid run1
  have HO1 := Lib.hid o1
  have HB1 := Lib.hid b1
  have d0 := (P0.out.below b1 hsz).cells.1
  have d1 := (P0.out.below b1 hsz).cells.2
  clear o1 b1 run1 hwa hsa
  go_enter Tryz.func112, Tryz.ntmps112
  go_upto_region 1 with (fail)
  rw [← HWA.out]
  go_wp2_with (at_builtin; refine wpList_runApp rfl _ _ rfl rfl rfl HRUN.out ?_)
  clear d0 d1
  go_loopw [5, 16] (fun q i wr => ∃ k : Nat, k ≤ l.length ∧ i = .int .i64 (k : Int) ∧ Hid (wr.ownsRow wa.heap.size 3 1 q (touchL ls cs (l.take k)).length (I (touchL ls cs (l.take k)))) ∧ Hid (Below wa.heap.size wa wr)) (fun _ i _ => l.length - (intOf i).toNat)
  case atStart => exact ⟨0, Nat.zero_le _, rfl, HO1, HB1⟩
  case round =>
    clear HO1 HB1
    obtain ⟨k, hk, rfl, HO, HB⟩ := hrel
    by_cases hlt : k < l.length
    · obtain ⟨g, o, hgo, hg, hcell0⟩ := HAO.out k hlt
      subst hgo
      obtain ⟨un, hun⟩ : ∃ un : Nat, l[k] = un := ⟨l[k].toNat, by have := HGG.out.tasks l[k] (List.getElem_mem hlt); omega⟩
      have hul : un < ls.length := by have := HGG.out.tasks l[k] (List.getElem_mem hlt); omega
      have hul2 : (un : Int) < (ls.length : Int) := by omega
      have hcell : wr.cell? ⟨g, o + k, none⟩ = some (.int .i64 (un : Int)) := by rw [(bth HA.out HB.out (Nat.le_refl _)).cell (p := ⟨g, o + k, none⟩) hg, hcell0, hun]
      obtain ⟨d0, d1⟩ := (P0.out.below HB.out hsz).cells
      obtain ⟨g1, o1, a2, c2, hgn, hg1, hcell1, hrow⟩ := HAT.out un hul
      subst hgn
      have hcn : wr.cell? ⟨g1, o1 + un, none⟩ = some (.slice a2 ls[un].length c2) := ((bth HA.out HB.out (Nat.le_refl _)).cell (p := ⟨g1, o1 + un, none⟩) hg1).trans hcell1
      have HRW : Hid (∀ W, Below w.heap.size w W → RowV W (.slice a2 ls[un].length c2) (I ls[un])) := fun W h => hrow.below h
      have hnl : ls[un].length ≤ c2 ∧ c2 ≤ 2 ^ 63 - 1 := by
        obtain ⟨_, _, h, h', h4, _⟩ := hrow.ints
        unfold maxLen at h4
        injection h with _ _ h3; omega
      obtain ⟨hnl, hc2⟩ := hnl
      have HBK : Hid (touchL ls cs (l.take (k + 1)) = touch1 (un : Int) (touchL ls cs (l.take k)) ls[un]) := by
        show _ = _
        rw [List.take_succ_eq_append_getElem hlt, touchL_snoc, hun, needsAt_get hul]
      have HBR : Hid (Rise (touchL ls cs (l.take k)) ∧ ∀ x ∈ touchL ls cs (l.take k), 0 ≤ x ∧ x < (ls.length : Int)) := ⟨touchL_rise _ _ HCR.out, touchL_in ls.length (fun x hx => by have := HGG.out.tasks x (List.mem_of_mem_take hx); omega) HCI.out⟩
      generalize touchL ls cs (l.take k) = bk at *
      obtain ⟨ra, rc, hq⟩ := own_slice HO.out
      subst hq
      clear hcell0 hcell1 hrow hun
      go_wp2_with fail
      clear hcell hcn d0 d1
      go_loopw [5, 26] (fun q i wz => ∃ m : Nat, m ≤ ls[un].length ∧ i = .int .i64 (m : Int) ∧ Hid (wz.ownsRow wa.heap.size 3 1 q (touch1 (un : Int) bk (ls[un].take m)).length (I (touch1 (un : Int) bk (ls[un].take m)))) ∧ Hid (Below wa.heap.size wa wz)) (fun _ i _ => ls[un].length - (intOf i).toNat)
      case atStart => exact ⟨0, Nat.zero_le _, rfl, HO, HB⟩
      case round =>
        clear HO HB
        obtain ⟨m, hm, rfl, HO, HB⟩ := hrel
        by_cases hlt2 : m < ls[un].length
        · obtain ⟨ra, rc, hq⟩ := own_slice HO.out
          subst hq
          obtain ⟨gr, or, hra, hcr⟩ : ∃ gr or, a2 = some ⟨gr, or, none⟩ ∧ wr.cell? ⟨gr, or + m, none⟩ = some (.int .i64 ls[un][m]) := by
            obtain ⟨aa, cc, h, _, _, hc⟩ := (HRW.out wr (bth HA.out HB.out (Nat.le_refl _))).ints
            injection h with h1 _ _
            obtain ⟨gr, or, h2, _, h3⟩ := hc m hlt2
            exact ⟨gr, or, by rw [h1, h2], h3⟩
          subst hra
          have hlo : (touch1 (un : Int) bk (ls[un].take m)).length ≤ 10 := by
            have := short_in (touch1_rise (k := (un : Int)) (ls[un].take m) HBR.out.1) (touch1_in (n := ls.length) ⟨by omega, hul2⟩ _ HBR.out.2)
            omega
          have HE : Hid (touch1 (un : Int) bk (ls[un].take (m + 1)) = if hasL (touch1 (un : Int) bk (ls[un].take m)) ls[un][m] then putL (touch1 (un : Int) bk (ls[un].take m)) un else touch1 (un : Int) bk (ls[un].take m)) := by
            show _ = _
            rw [List.take_succ_eq_append_getElem hlt2, touch1_snoc]
          generalize touch1 (un : Int) bk (ls[un].take m) = bo at *
          generalize ls[un][m] = xm at *
          have HH := l1Has_any bo xm _ wr (RowV.of_own HO.out)
          rcases hh : hasL bo xm with _ | _
          · rw [hh] at HE HH
            have HE2 : Hid (touch1 (un : Int) bk (ls[un].take (m + 1)) = bo) := HE.out
            have HC := Lib.hid HH
            clear HH hh HE
            go_wp2_with fail
            refine HC.out.mono ?_
            rintro e w8 ⟨rfl, rfl⟩
            go_wp2_with fail
            go_roundw
            case rel => exact ⟨m + 1, by omega, by go_num, by rw [HE2.out]; exact HO, HB⟩
            case measure => simp [intOf]; omega
          · rw [hh] at HE HH
            have HE2 : Hid (touch1 (un : Int) bk (ls[un].take (m + 1)) = putL bo un) := HE.out
            have HC := Lib.hid HH
            have HP := Lib.hid (l1Put_any bo un wa.heap.size _ wr HO.out HB.out.size (by omega))
            clear HH hh HE
            go_wp2_with fail
            refine HC.out.mono ?_
            rintro e w8 ⟨rfl, rfl⟩
            go_wp2_with fail
            refine HP.out.mono ?_
            rintro e w9 ⟨v9, rfl, ho9, hb9⟩
            have HO9 := Lib.hid ho9
            have HB9 := Lib.hid (bth HB.out hb9 (Nat.le_refl _))
            clear ho9 hb9
            go_wp2_with fail
            go_roundw
            case rel => exact ⟨m + 1, by omega, by go_num, by rw [HE2.out]; exact HO9, HB9⟩
            case measure => simp [intOf]; omega
        · rw [List.take_of_length_le (by omega), ← HBK.out] at HO
          obtain ⟨ra, rc, hq⟩ := own_slice HO.out
          subst hq
          go_wp2_with fail
          go_roundw
          case rel => exact ⟨k + 1, by omega, by go_num, HO, HB⟩
          case measure => simp [intOf]; omega
    · rw [List.take_of_length_le (by omega), HIS.out] at HO
      obtain ⟨ra, rc, hq⟩ := own_slice HO.out
      subst hq
      go_wp2_with fail
      go_ret
      exact ⟨_, rfl, own_base HO.out (by omega), bth HA.out HB.out (Nat.le_refl _)⟩

end Go.Proofs.YtcfhfhpdnjaokaaGreatDoor

/- Walks: what is made anew after a change, of the reference. -/
namespace Go.Proofs.YtcfhfhpdnjaokaaGreatDoor
open Go.RowKit Pth

/-- Plans, results, bodies and changed tasks as said. -/
noncomputable def goodC8 (ls : List (List Int)) (l : List Int) (bs : List Bool) (rs : List (List OpT)) (m : List ResT) (ts : List (List UInt8)) (cs : List Int) : Bool := goodA8 ls l bs rs m ts && someG ls l cs
/-- What is made where all that is touched is due. -/
noncomputable def allP (ls : List (List Int)) (l : List Int) (bs : List Bool) (rs : List (List OpT)) (m : List ResT) (ts : List (List UInt8)) (cs : List Int) : List ResT × List Int := passM (oneM ls bs rs ts) (fun _ k => hasL (touchS ls cs) (k : Int)) l (m, [])
noncomputable def allR (ls : List (List Int)) (l : List Int) (bs : List Bool) (rs : List (List OpT)) (m : List ResT) (ts : List (List UInt8)) (cs : List Int) : List ResT := if goodC8 ls l bs rs m ts cs then (allP ls l bs rs m ts cs).1 else []
noncomputable def allN (ls : List (List Int)) (l : List Int) (bs : List Bool) (rs : List (List OpT)) (m : List ResT) (ts : List (List UInt8)) (cs : List Int) : Int := if goodC8 ls l bs rs m ts cs then (runsL bs (allP ls l bs rs m ts cs).2 : Int) else 0
theorem pass_short (one : List ResT → Nat → ResT) (due : List ResT → Nat → Bool) {ls : List (List Int)} {l : List Int} {bs : List Bool} {rs : List (List OpT)} {m : List ResT} {ts : List (List UInt8)} (h : goodA8 ls l bs rs m ts = true) : (passM one due l (m, [])).1.length ≤ 1000000 := by
  obtain ⟨h1, h2, _⟩ := good8_parts h
  have h3 := (plan_parts h1).2.1
  have h4 := (plan_parts h1).1.high
  rw [pass_len]; simp only; omega
theorem all_short (ls : List (List Int)) (l : List Int) (bs : List Bool) (rs : List (List OpT)) (m : List ResT) (ts : List (List UInt8)) (cs : List Int) : (allR ls l bs rs m ts cs).length ≤ 1000000 := by
  unfold allR
  split
  · rename_i h
    unfold goodC8 at h
    rw [Bool.and_eq_true] at h
    exact pass_short _ _ h.1
  · simp
theorem lit_rowR (x : List ResT) (a : Option Addr) (c : Nat) (w W : World) (hW : W = w.alloc (.cells #[] 41)) (hrow : RowR w (.slice a x.length c) x) (hx : x.length ≤ 1000) (hpos : 0 < x.length) (ty : TypeId) :
    ∃ gq qc w1, (Builtin.append_ #[34, 34] ty #[.slice (some ⟨w.heap.size, 0, none⟩) 0 0, .slice a x.length c]).run Tryz.prog W = .ok (.slice (some ⟨gq, 0, none⟩) x.length qc) w1 ∧ w1.ownsRow w.heap.size 41 2 (.slice (some ⟨gq, 0, none⟩) x.length qc) x.length (RC x) ∧ Below w.heap.size w w1 := by
  subst hW
  have hb : Below w.heap.size w (w.alloc (.cells #[] 41)) := (Below.refl _ w).alloc (Nat.le_refl _) _
  obtain ⟨v1, w1, r1, b1, hl⟩ := run_app_lit elemR (w.alloc (.cells #[] 41)) w.heap.size ty x.length (RC x) a c (hrow.below hb) (by omega)
  rcases hl with ⟨h0, _⟩ | ⟨_, ho⟩
  · omega
  · have ho' := own_baseG (B' := w.heap.size) ho (by simp)
    rcases ho.2 with ⟨_, h0⟩ | ⟨g, cap, cur, hv, _⟩
    · omega
    · subst hv
      exact ⟨g, cap, w1, r1, ho', bth hb b1 (Nat.le_refl _)⟩

set_option maxRecDepth 20000 in
set_option maxHeartbeats 8000000 in
theorem specAgainAll_any (ls : List (List Int)) (l : List Int) (bs : List Bool) (rs : List (List OpT)) (m : List ResT) (ts : List (List UInt8)) (cs' : List Int) (v u x z : Value) (w : World) (hp : PlanV w v ls l bs rs) (hr : RowR w u m) (hts : RowV w x (S ts)) (hcs : RowV w z (I cs')) (hx : ∀ l ∈ rs, ∀ f ∈ l, f.2.2.length ≤ maxLen) (hxm0 : ∀ f ∈ m, f.1.length ≤ maxLen) (hxt0 : ∀ x ∈ ts, x.length ≤ maxLen) :
    Calls Tryz.prog 44 #[v, u, x, z] w (ResNOk (allR ls l bs rs m ts cs') (allN ls l bs rs m ts cs') (goodC8 ls l bs rs m ts cs') w) := by
  have HV := Lib.hid hp
  obtain ⟨nv, ov, sv, rv, rfl, h1, h2, h3, h4⟩ := hp
  obtain ⟨as0, cs, rfl, hs1, hs2, hats⟩ := h3.boolsW
  obtain ⟨an, cn, rfl, hn1, hn2, _⟩ := h1.lists
  obtain ⟨ao, co, rfl, ho1, ho2, hato⟩ := h2.ints
  obtain ⟨ar, cr, rfl, hr1, hr2, _⟩ := h4.lists
  clear h1 h2 h3 h4
  have HR := Lib.hid hr
  obtain ⟨am, cm, rfl, hm1, hm2, _⟩ := hr.res
  clear hr
  have HT := Lib.hid hts
  obtain ⟨at0, ct, rfl, ht1, ht2, _⟩ := hts.texts
  clear hts
  unfold maxLen at hs2 hn2 ho2 hr2 hm2 ht2
  have HZ := Lib.hid hcs
  obtain ⟨az, cz, rfl, hz1, hz2, _⟩ := hcs.ints
  clear hcs
  unfold maxLen at hz2
  obtain ⟨wa, hwa⟩ : ∃ wa, wa = w.alloc (.cells #[.slice an ls.length cn, .slice ao l.length co, .slice as0 bs.length cs, .slice ar rs.length cr] 30) := ⟨_, rfl⟩
  have hsz : w.heap.size < wa.heap.size := by rw [hwa]; simp
  have P0 : Hid (Blk4 wa w.heap.size 30 (.slice an ls.length cn) (.slice ao l.length co) (.slice as0 bs.length cs) (.slice ar rs.length cr)) := by rw [hwa]; exact Blk4.new
  have HA : Hid (Below w.heap.size w wa) := by rw [hwa]; exact (Below.refl w.heap.size w).alloc (Nat.le_refl _) _
  have HWA : Hid (w.alloc (.cells #[.slice an ls.length cn, .slice ao l.length co, .slice as0 bs.length cs, .slice ar rs.length cr] 30) = wa) := by rw [hwa]; rfl
  clear hwa
  have HPV : Hid (∀ W, Below w.heap.size w W → PlanV W (.agg #[.slice an ls.length cn, .slice ao l.length co, .slice as0 bs.length cs, .slice ar rs.length cr]) ls l bs rs) := fun W h => HV.out.below h
  have HRV : Hid (∀ W, Below w.heap.size w W → RowR W (.slice am m.length cm) m) := fun W h => HR.out.below h
  have HTV : Hid (∀ W, Below w.heap.size w W → RowV W (.slice at0 ts.length ct) (S ts)) := fun W h => HT.out.below h
  have HGV : Hid (∀ W, Below w.heap.size w W → GraphV W (.agg #[.slice an ls.length cn, .slice ao l.length co]) ls l) := fun W h => by
    obtain ⟨_, _, _, _, he, k1, k2, _, _⟩ := HPV.out W h
    injection he with he
    simp only [Array.mk.injEq, List.cons.injEq, and_true] at he
    obtain ⟨rfl, rfl, _, _⟩ := he
    exact ⟨_, _, rfl, k1, k2⟩
  have HZV : Hid (∀ W, Below w.heap.size w W → RowV W (.slice az cs'.length cz) (I cs')) := fun W h => HZ.out.below h
  obtain ⟨b, hb⟩ : ∃ b, goodA8 ls l bs rs m ts = b := ⟨_, rfl⟩
  obtain ⟨s, hs⟩ : ∃ s, someG ls l cs' = s := ⟨_, rfl⟩
  have HC := Lib.hid (specGood8_b hb _ _ _ wa (HPV.out wa HA.out) (HRV.out wa HA.out) (HTV.out wa HA.out) hx hxm0 hxt0)
  have HSO := Lib.hid (fun W (h : Below w.heap.size w W) => l6Some_any ls l cs' _ _ W (HGV.out W h) (HZV.out W h))
  rw [hs] at HSO
  rcases b with _ | _
  · have hgc : goodC8 ls l bs rs m ts cs' = false := by unfold goodC8; rw [hb]; rfl
    have HE1 : Hid (allR ls l bs rs m ts cs' = []) := by show _ = _; unfold allR; rw [hgc]; rfl
    have HE2 : Hid (allN ls l bs rs m ts cs' = 0) := by show _ = _; unfold allN; rw [hgc]; rfl
    rw [HE1.out, HE2.out, hgc]
    obtain ⟨c0, c1, c2, c3⟩ := P0.out.cells
    clear hb hs hx hxm0 hxt0 hgc HE1 HE2 HSO hats hato
    go_enter Tryz.func44, Tryz.ntmps44
    go_wp2_with fail
    rw [HWA.out]
    refine HC.out.mono ?_
    rintro e w1 ⟨rfl, hb1⟩
    have HW1 := Lib.hid (bth HA.out hb1 (Nat.le_refl _))
    clear hb1 c0 c1 c2 c3 HC
    go_wp2_with fail
    go_ret3
    exact ⟨_, rfl, none_ownR _ _, HW1.out⟩
  rcases s with _ | _
  · have hgc : goodC8 ls l bs rs m ts cs' = false := by unfold goodC8; rw [hb, hs]; rfl
    have HE1 : Hid (allR ls l bs rs m ts cs' = []) := by show _ = _; unfold allR; rw [hgc]; rfl
    have HE2 : Hid (allN ls l bs rs m ts cs' = 0) := by show _ = _; unfold allN; rw [hgc]; rfl
    rw [HE1.out, HE2.out, hgc]
    obtain ⟨c0, c1, c2, c3⟩ := P0.out.cells
    clear hb hs hx hxm0 hxt0 hgc HE1 HE2 hats hato
    go_enter Tryz.func44, Tryz.ntmps44
    go_wp2_with fail
    rw [HWA.out]
    refine HC.out.mono ?_
    rintro e w1 ⟨rfl, hb1⟩
    have HB1 := Lib.hid hb1
    have HW1 := Lib.hid (bth HA.out hb1 (Nat.le_refl _))
    clear hb1 c0 c1 c2 c3 HC
    obtain ⟨c0, c1, c2, c3⟩ := (P0.out.below HB1.out hsz).cells
    go_wp2_with fail
    refine (HSO.out w1 HW1.out).mono ?_
    rintro e w2 ⟨rfl, hb2⟩
    have HW2 := Lib.hid (bth HW1.out hb2 (Nat.le_refl _))
    clear hb2 c0 c1 c2 c3
    go_wp2_with fail
    go_ret3
    exact ⟨_, rfl, none_ownR _ _, HW2.out⟩
  have hg := hb
  have hgc : goodC8 ls l bs rs m ts cs' = true := by unfold goodC8; rw [hb, hs]; rfl
  have hE1 : allR ls l bs rs m ts cs' = (allP ls l bs rs m ts cs').1 := by unfold allR; rw [hgc]; rfl
  have hE2 : allN ls l bs rs m ts cs' = (runsL bs (allP ls l bs rs m ts cs').2 : Int) := by unfold allN; rw [hgc]; rfl
  rw [hE1, hE2, hgc]
  obtain ⟨hpl, hmb, htb, hsm, hst, _, _⟩ := good8_parts hg
  have hG := (plan_parts hpl).1
  have hbl := (plan_parts hpl).2.1
  have hlo := hG.same
  have hhi := hG.high
  have hlw := hG.low
  have hl10 : l.length ≤ 10 := by omega
  have hmpos : 0 < m.length := by omega
  have hm10 : m.length ≤ 10 := by omega
  have hmbs : m.length = bs.length := hmb
  have HON : Hid (∀ W z M (y : Nat), Below w.heap.size w W → RowR W z M → M.length = bs.length → Sml M → y < ls.length → Calls Tryz.prog 114 #[.agg #[.slice an ls.length cn, .slice ao l.length co, .slice as0 bs.length cs, .slice ar rs.length cr], z, .slice at0 ts.length ct, .int .i64 (y : Int)] W fun e w' => e = .returned (resV (oneM ls bs rs ts M y)) ∧ Below W.heap.size W w') := fun W z M y h1 h2 h3 h4 h5 => specOne_any ls l bs rs M ts y _ _ _ W (HPV.out W h1) h2 (HTV.out W h1) hpl h3 htb h5 h4 hst
  obtain ⟨hrise, hrange⟩ := (some_yes hs).2
  have HTO := Lib.hid (fun W (h : Below w.heap.size w W) => l6Touched_any ls l cs' _ _ W (HGV.out W h) (HZV.out W h) (some_yes hs).1 hrise hrange)
  have HIN : Hid (∀ k (hk : k < l.length), 0 ≤ l[k] ∧ l[k] < (ls.length : Int)) := fun k hk => by have := hG.tasks _ (List.getElem_mem hk); omega
  obtain ⟨MK, hMK⟩ : ∃ MK : Nat → List ResT × List Int, MK = fun k => passM (oneM ls bs rs ts) (fun _ k => hasL (touchS ls cs') (k : Int)) (l.take k) (m, []) := ⟨_, rfl⟩
  have HML : Hid (∀ k, (MK k).1.length = bs.length) := fun k => by rw [hMK]; simp only; rw [pass_len]; exact hmb
  have HMS : Hid (∀ k, Sml (MK k).1) := fun k => by rw [hMK]; exact pass_sml _ _ (fun _ _ => oneM_len hst) _ _ hsm
  have HMM : Hid (∀ k, (MK k).2.length ≤ k) := fun k => by rw [hMK]; exact Nat.le_trans (pass_made _ _ _ _) (by rw [List.length_take]; simp; omega)
  have HMN : Hid (∀ k (hk : k < l.length), MK (k + 1) = if (fun _ k => hasL (touchS ls cs') (k : Int)) (MK k).1 l[k].toNat then ((MK k).1.set l[k].toNat (oneM ls bs rs ts (MK k).1 l[k].toNat), (MK k).2 ++ [l[k]]) else MK k) := fun k hk => by rw [hMK]; exact pass_next _ _ hk _
  have HM0 : Hid (MK 0 = (m, [])) := by rw [hMK]; rfl
  have HMZ : Hid (MK l.length = passM (oneM ls bs rs ts) (fun _ k => hasL (touchS ls cs') (k : Int)) l (m, [])) := by rw [hMK]; show _ = _; simp only [List.take_length]
  have hPE : allP ls l bs rs m ts cs' = MK l.length := HMZ.out.symm
  rw [hPE]
  have htl : (touchS ls cs').length ≤ 1000000 := by have := touchA_short ls l cs'; rw [touchA_yes hs] at this; exact this
  obtain ⟨T, hT⟩ : ∃ T, touchS ls cs' = T := ⟨_, rfl⟩
  rw [hT] at HTO HMN htl
  obtain ⟨one, hone⟩ : ∃ one, oneM ls bs rs ts = one := ⟨_, rfl⟩
  rw [hone] at HON HMN
  have HATO := Lib.hid hato
  have HATS := Lib.hid hats
  have HBL := Lib.hid hbl
  have HMB := Lib.hid hmbs
  obtain ⟨c0, c1, c2, c3⟩ := P0.out.cells
  clear hb hs hx hxm0 hxt0 hg hgc hE1 hE2 hpl hmb htb hsm hst hG hbl hlo hhi hlw hMK hPE hT hone hrise hrange hmbs hats hato HMZ
  go_enter Tryz.func44, Tryz.ntmps44
  go_wp2_with fail
  rw [HWA.out]
  refine HC.out.mono ?_
  rintro e w1 ⟨rfl, hb1⟩
  have HB1 := Lib.hid hb1
  have HW1 := Lib.hid (bth HA.out hb1 (Nat.le_refl _))
  clear hb1 c0 c1 c2 c3 HC
  obtain ⟨c0, c1, c2, c3⟩ := (P0.out.below HB1.out hsz).cells
  go_wp2_with fail
  refine (HSO.out w1 HW1.out).mono ?_
  rintro e w2 ⟨rfl, hb2⟩
  have HW2 := Lib.hid (bth HW1.out hb2 (Nat.le_refl _))
  have HB2 := Lib.hid (bth HB1.out hb2 (Nat.le_refl _))
  clear hb2 c0 c1 c2 c3 HSO
  obtain ⟨gq, qc, w3, run3, ho3, hb3⟩ := lit_rowR m am cm w2 _ rfl (HRV.out w2 HW2.out) (by omega) hmpos 34
  have HRUN := Lib.hid run3
  have s2 : wa.heap.size ≤ w2.heap.size := HB2.out.size
  have HN3 := Lib.hid (own_baseG (B' := wa.heap.size) ho3 s2)
  have HB3 := Lib.hid (bth HB2.out hb3 (Nat.le_refl _))
  have HW3 := Lib.hid (bth HW2.out hb3 (Nat.le_refl _))
  have hgq : wa.heap.size ≤ gq := Nat.le_trans s2 (ho3.lt gq rfl).1
  clear run3 ho3 hb3
  obtain ⟨c0, c1, c2, c3⟩ := (P0.out.below HB3.out hsz).cells
  go_upto_region 3 with fail
  go_wp2_with (at_builtin; refine wpList_runApp rfl _ _ rfl rfl rfl HRUN.out ?_)
  refine (HTO.out w3 HW3.out).mono ?_
  rintro e w4 ⟨v4, rfl, ho4, hb4⟩
  have HB4 := Lib.hid (bth HB3.out hb4 (Nat.le_refl _))
  have HN4 := Lib.hid (own_belowG HN3.out hb4)
  have HT4 := Lib.hid (RowV.of_own ho4)
  obtain ⟨ta, tc, rfl⟩ := own_slice ho4
  have HTW : Hid (∀ W, Below w4.heap.size w4 W → RowV W (.slice ta T.length tc) (I T)) := fun W h => HT4.out.below h
  have hT4 : ∀ k, (Value.slice ta T.length tc).ownBlock = some k → w3.heap.size ≤ k := fun k hk => (ho4.lt k hk).1
  have HO4 := Lib.hid ho4
  have hgw3 : gq < w3.heap.size := (HN3.out.lt gq rfl).2
  clear hb4 ho4 c0 c1 c2 c3 HRUN HTO
  obtain ⟨c0, c1, c2, c3⟩ := (P0.out.below HB4.out hsz).cells
  go_wp2_with fail
  clear c0 c1 c2 c3
  go_loopw [13, 39] (fun q i wr => ∃ k : Nat, k ≤ l.length ∧ i = .int .i64 k ∧ q = .int .i64 (runsL bs (MK k).2 : Int) ∧ Hid (Below wa.heap.size wa wr) ∧ Hid (wr.ownsRow wa.heap.size 41 2 (.slice (some ⟨gq, 0, none⟩) m.length qc) m.length (RC (MK k).1)) ∧ Hid (wr.ownsRow w3.heap.size 3 1 (.slice ta T.length tc) T.length (I T))) (fun _ i _ => l.length - (intOf i).toNat)
  case atStart => exact ⟨0, Nat.zero_le _, rfl, by rw [HM0.out]; rfl, HB4, by rw [HM0.out]; exact HN4, HO4⟩
  case round =>
    clear HN4
    obtain ⟨k, hk, rfl, rfl, HB, HN, HO⟩ := hrel
    have HBW := Lib.hid (bth HA.out HB.out (Nat.le_refl _))
    by_cases hlt : k < l.length
    · obtain ⟨go, oo, rfl, hgo, hcell0⟩ := HATO.out k hlt
      have hcell := (HBW.out.cell (p := ⟨go, oo + k, none⟩) hgo).trans hcell0
      obtain ⟨hx0, hx1⟩ := HIN.out k hlt
      have hnext := HMN.out k hlt
      obtain ⟨y, hy⟩ : ∃ y : Nat, l[k] = y := ⟨(l[k]).toNat, by omega⟩
      have hyl : y < ls.length := by omega
      have hyb : y < bs.length := by have := HBL.out; omega
      have hmk := HML.out k
      have hms := HMS.out k
      have hmm := HMM.out k
      have hym : y < (MK k).1.length := by omega
      rw [hy, Int.toNat_natCast] at hnext
      rw [hy] at hcell
      have hmn : (MK k).1.length = m.length := by have := HMB.out; omega
      have HHAS := Lib.hid (l1Has_any T (y : Int) _ wr (RowV.of_own HO.out))
      have HOK := Lib.hid (fun W (h : Below wr.heap.size wr W) => HON.out W _ (MK k).1 y (bth HBW.out h (Nat.le_refl _)) (RowR.of_ownL (own_belowG HN.out h) hmn) hmk hms hyl)
      obtain ⟨gs, os, rfl, hgs, hcs2⟩ := HATS.out y hyb
      have HSC : Hid (∀ W, Below wr.heap.size wr W → W.cell? ⟨gs, os + y, none⟩ = some (.bool bs[y])) := fun W h => ((bth HBW.out h (Nat.le_refl _)).cell (p := ⟨gs, os + y, none⟩) hgs).trans hcs2
      have hsrc := getD_at false hyb
      have hrun := runs_app bs (MK k).2 (y : Int)
      rw [Int.toNat_natCast, hsrc] at hrun
      have hle : runsL bs (MK k).2 ≤ 10 := Nat.le_trans (runs_le _ _) (by omega)
      have HNX := Lib.hid hnext
      have HRA := Lib.hid hrun
      have hyz : (y : Int) < (m.length : Int) := by omega
      have hyz2 : (y : Int) < (bs.length : Int) := by omega
      clear hcell0 hx0 hx1 hy HATO HATS HIN HMN hnext HON hcs2 hsrc hrun
      generalize MK k = P at *
      obtain ⟨M, D⟩ := P
      simp only at *
      obtain ⟨d, hd⟩ : ∃ d, hasL T (y : Int) = d := ⟨_, rfl⟩
      rw [hd] at HHAS HNX
      generalize one M y = R at *
      obtain ⟨r1, r2⟩ := R
      generalize hr0 : runsL bs D = r at *
      have HRR := Lib.hid hr0
      clear hr0
      generalize bs[y] = sb at *
      unfold resV at HOK
      simp only at HOK
      obtain ⟨c0, c1, c2, c3⟩ := (P0.out.below HB.out hsz).cells
      go_wp2_with fail
      refine HHAS.out.mono ?_
      rintro e w5 ⟨rfl, hw5⟩
      have hb5 : Below wr.heap.size wr w5 := by rw [← hw5]; exact Below.refl _ _
      clear hw5
      have HB5 := Lib.hid (bth HB.out hb5 (Nat.le_refl _))
      have HN5 := Lib.hid (own_belowG HN.out hb5)
      have HO5 := Lib.hid (own_below HO.out hb5)
      have K5 := Lib.hid hb5
      clear hb5 c0 c1 c2 c3 HHAS hcell
      rcases d with _ | _
      · have HE : Hid (MK (k + 1) = (M, D)) := by have := HNX.out; simpa [Hid] using this
        clear HNX HOK HRA
        go_wp2_with fail
        go_roundw
        case rel => exact ⟨k + 1, by omega, by go_num, by rw [HE.out]; show _ = Value.int _ (runsL bs D : Int); rw [HRR.out], HB5, by rw [HE.out]; exact HN5, HO5⟩
        case measure => simp [intOf]; omega
      · have HE : Hid (MK (k + 1) = (M.set y (r1, r2), D ++ [(y : Int)])) := by have := HNX.out; simpa [Hid] using this
        have HCK := Lib.hid (HOK.out w5 K5.out)
        clear HNX HOK
        obtain ⟨c0, c1, c2, c3⟩ := (P0.out.below HB5.out hsz).cells
        go_wp2_with fail
        refine HCK.out.mono ?_
        rintro e w8 ⟨rfl, hb8⟩
        have hyM : y < M.length := by omega
        have HN8 := Lib.hid (own_belowG HN5.out hb8)
        have HO8 := Lib.hid (own_below HO5.out hb8)
        have HB8 := Lib.hid (bth HB5.out hb8 (Nat.le_refl _))
        have K8 := Lib.hid (bth K5.out hb8 (Nat.le_refl _))
        obtain ⟨d0, d1, f0, f1⟩ := own_atR HN8.out hmn hyM
        have hst := own_setR HN8.out hyM (r1, r2)
        obtain ⟨w9, hw9⟩ : ∃ w9, w9 = (w8.setCell ⟨gq, y * 2, none⟩ (.string ⟨r1.toArray⟩)).setCell ⟨gq, y * 2 + 1, none⟩ (.int .i64 r2) := ⟨_, rfl⟩
        rw [← hw9] at hst
        have HN9 := Lib.hid hst.1
        have HO9 := Lib.hid (own_apartG HO8.out (show w8.grownBy w9 (Value.slice (some ⟨gq, 0, none⟩) m.length qc).ownBlock from hst.2) (own_typesG HN8.out HO8.out (by decide)))
        have HB9 := Lib.hid (HB8.out.trans (only_below hst.2 hgq HB8.out.size))
        have HW9 := Lib.hid hw9
        have hgsw : gs < w.heap.size := hgs
        have hsc9 : w9.cell? ⟨gs, os + y, none⟩ = some (.bool sb) := by
          rw [hw9, set_ne _ _ (by omega), set_ne _ _ (by omega)]
          exact HSC.out w8 K8.out
        clear hst hw9 hb8 c0 c1 c2 c3 HCK
        obtain ⟨c0, c1, c2, c3⟩ := (P0.out.below HB9.out hsz).cells
        go_upto_region 11 with fail
        rw [← HW9.out]
        clear d0 d1 f0 f1 HW9
        have hs1 : IntKind.i64.wrap ((r : Int) + 1) = (r : Int) + 1 := by rw [IntKind.wrap_i64]; omega
        rcases sb with _ | _
        · have HR2 : Hid (runsL bs (D ++ [(y : Int)]) = r + 1) := by have := HRA.out; simpa [Hid] using this
          clear HRA HSC
          go_wp2_with fail
          go_roundw
          case rel => exact ⟨k + 1, by omega, by go_num, by rw [HE.out]; show _ = Value.int _ (runsL bs (D ++ [(y : Int)]) : Int); rw [HR2.out]; go_num, HB9, by rw [HE.out]; exact HN9, HO9⟩
          case measure => simp [intOf]; omega
        · have HR2 : Hid (runsL bs (D ++ [(y : Int)]) = r) := by have := HRA.out; simpa [Hid] using this
          clear HRA HSC
          go_wp2_with fail
          go_roundw
          case rel => exact ⟨k + 1, by omega, by go_num, by rw [HE.out]; show _ = Value.int _ (runsL bs (D ++ [(y : Int)]) : Int); rw [HR2.out], HB9, by rw [HE.out]; exact HN9, HO9⟩
          case measure => simp [intOf]; omega
    · obtain rfl : k = l.length := by omega
      have hmn : (MK l.length).1.length = m.length := by have := HML.out l.length; have := HMB.out; omega
      have HMNL := Lib.hid hmn
      clear HATO HATS HIN HMN HON hmn
      go_wp2_with fail
      go_ret3
      exact ⟨_, rfl, by rw [HMNL.out]; exact own_baseG HN.out HA.out.size, HBW.out⟩

end Go.Proofs.YtcfhfhpdnjaokaaGreatDoor
