/- Texts of one claim, joined in their order. -/
import Derived.Test.YtcfhfhpdnjaokaaM5
import Derived.Test.YtcfhfhpdnjaokaaM1
import Derived.Test.YtcfhfhpdnjaokaaM3
import Derived.Test.YtcfhfhpdnjaokaaM4

/- Walks: the laws over a plan and lists whose answer is a list, given contracts of both programs. -/
namespace Go.Proofs.Ytcfhfhpdnjaokaa
open Go.RowKit Pth

set_option maxRecDepth 20000 in
set_option maxHeartbeats 16000000 in
theorem exactChangedIn_of (ls : List (List Int)) (l : List Int) (bs : List Bool) (rs : List (List OpT)) (m1 : List (List UInt8)) (m2 : List (List UInt8)) (R : List Int) (ok : Bool) (v u1 u2 : Value) (w : World) (hst : PlanV w v ls l bs rs) (hx : ∀ l ∈ rs, ∀ f ∈ l, f.2.2.length ≤ maxLen) (hm1 : RowV w u1 (S m1)) (hx1 : ∀ x ∈ m1, x.length ≤ maxLen) (hm2 : RowV w u2 (S m2)) (hx2 : ∀ x ∈ m2, x.length ≤ maxLen)
    (hL : R.length ≤ 1000000)
    (hsp : ∀ W u y1 y2, PlanV W u ls l bs rs → RowV W y1 (S m1) → RowV W y2 (S m2) → Calls Try.prog 6 #[u, y1, y2] W (NumsOk R ok W))
    (him : ∀ W u y1 y2, PlanV W u ls l bs rs → RowV W y1 (S m1) → RowV W y2 (S m2) → Calls Try.prog 9 #[u, y1, y2] W (NumsOk R ok W)) :
    Calls Try.prog 3 #[v, u1, u2] w (YesW w) := by
  have HST := Lib.hid hst
  have HSP := Lib.hid hsp
  have HIM := Lib.hid him
  clear hsp him
  obtain ⟨nv, ov, sv, rv, rfl, h1, h2, h3, h4⟩ := hst
  obtain ⟨as0, cs, rfl, hs1, hs2, _⟩ := h3.boolsW
  obtain ⟨an, cn, rfl, hn1, hn2, _⟩ := h1.lists
  obtain ⟨ao, co, rfl, ho1, ho2, _⟩ := h2.ints
  obtain ⟨ar, cr, rfl, hr1, hr2, _⟩ := h4.lists
  clear h1 h2 h3 h4
  have HM1 := Lib.hid hm1
  have HX1 := Lib.hid hx1
  obtain ⟨ma1, mc1, rfl, hma1, hmb1, _⟩ := hm1.texts
  clear hm1 hx1
  have HM2 := Lib.hid hm2
  have HX2 := Lib.hid hx2
  obtain ⟨ma2, mc2, rfl, hma2, hmb2, _⟩ := hm2.texts
  clear hm2 hx2
  unfold maxLen at hs2 hn2 ho2 hr2 hmb1 hmb2
  obtain ⟨wa, hwa⟩ : ∃ wa, wa = w.alloc (.cells #[.slice an ls.length cn, .slice ao l.length co, .slice as0 bs.length cs, .slice ar rs.length cr] 29) := ⟨_, rfl⟩
  have hsz : wa.heap.size = w.heap.size + 1 := by rw [hwa]; simp
  have P0 : Hid (Blk4 wa w.heap.size 29 (.slice an ls.length cn) (.slice ao l.length co) (.slice as0 bs.length cs) (.slice ar rs.length cr)) := by rw [hwa]; exact Blk4.new
  have HA : Hid (Below w.heap.size w wa) := by rw [hwa]; exact (Below.refl w.heap.size w).alloc (Nat.le_refl _) _
  have hlt0 : w.heap.size < wa.heap.size := by omega
  obtain ⟨c0, c1, c2, c3⟩ := P0.out.cells
  have HWA := Lib.hid hwa
  have HS := Lib.hid (szPlan_any ls l bs rs 1048576 _ wa (HST.out.below HA.out) hx (by omega))
  have HPV : Hid (∀ W, Below wa.heap.size wa W → PlanV W (.agg #[.slice an ls.length cn, .slice ao l.length co, .slice as0 bs.length cs, .slice ar rs.length cr]) ls l bs rs) := fun W h => HST.out.below (bth HA.out h (Nat.le_refl _))
  have HMV1 : Hid (∀ W, Below wa.heap.size wa W → RowV W (.slice ma1 m1.length mc1) (S m1)) := fun W h => HM1.out.below (bth HA.out h (Nat.le_refl _))
  have HMV2 : Hid (∀ W, Below wa.heap.size wa W → RowV W (.slice ma2 m2.length mc2) (S m2)) := fun W h => HM2.out.below (bth HA.out h (Nat.le_refl _))
  clear hwa hx
  go_enter Try.func3, Try.ntmps3
  go_wp2_with fail
  rw [← HWA.out]
  refine HS.out.mono ?_
  rintro e w1 ⟨r0, rfl, hle0, hr0, hb1⟩
  have K0 := Lib.hid hb1
  clear hb1 HS c0 c1 c2 c3
  by_cases h0 : r0 < 0
  · clear hr0 hle0
    go_wp2_with fail
    go_ret
    exact ⟨rfl, bth HA.out K0.out (Nat.le_refl _)⟩
  have hz : planZ ls l bs rs ≤ 1100000 := by have := hr0 (by omega); omega
  have hz2 : planZ ls l bs rs ≤ 2000000 := by omega
  obtain ⟨n0, rfl⟩ : ∃ n0 : Nat, r0 = n0 := ⟨r0.toNat, by omega⟩
  have hn0 : n0 ≤ 2000000 := by omega
  have HR0 : Hid (n0 + planZ ls l bs rs ≤ 1048576) := by have := hr0 (by omega); show _ ≤ _; omega
  clear hr0
  go_wp2_with fail
  refine (szStringS_le m1 n0 _ w1 (HMV1.out w1 K0.out) HX1.out hn0).mono ?_
  rintro e x1 ⟨r1, rfl, hle1, hr1, hw1⟩
  obtain rfl := hw1
  have KX1 := K0
  by_cases hc1 : r1 < 0
  · clear hr1
    go_wp2_with fail
    go_ret
    exact ⟨rfl, bth HA.out KX1.out (Nat.le_refl _)⟩
  have hml1 : m1.length ≤ 1100000 := by have := (hr1 (by omega)).1; omega
  obtain ⟨n1, rfl⟩ : ∃ n1 : Nat, r1 = n1 := ⟨r1.toNat, by omega⟩
  have hn1 : n1 ≤ 2000000 := by omega
  have HR1 : Hid (n1 + (planZ ls l bs rs + m1.length) ≤ 1048576) := by have := (hr1 (by omega)).1; have := HR0.out; show _ ≤ _; omega
  clear hr1
  go_wp2_with fail
  refine (szStringS_le m2 n1 _ w1 (HMV2.out w1 KX1.out) HX2.out hn1).mono ?_
  rintro e x2 ⟨r2, rfl, hle2, hr2, hw2⟩
  obtain rfl := hw2
  have KX2 := KX1
  by_cases hc2 : r2 < 0
  · clear hr2
    go_wp2_with fail
    go_ret
    exact ⟨rfl, bth HA.out KX2.out (Nat.le_refl _)⟩
  have hml2 : m2.length ≤ 1100000 := by have := (hr2 (by omega)).1; omega
  obtain ⟨n2, rfl⟩ : ∃ n2 : Nat, r2 = n2 := ⟨r2.toNat, by omega⟩
  have hn2 : n2 ≤ 2000000 := by omega
  have HR2 : Hid (n2 + (planZ ls l bs rs + m1.length + m2.length) ≤ 1048576) := by have := (hr2 (by omega)).1; have := HR1.out; show _ ≤ _; omega
  clear hr2
  obtain ⟨c0, c1, c2, c3⟩ := (P0.out.below KX2.out hlt0).cells
  have HTO := Lib.hid (fun W (hb : PlanV W _ ls l bs rs) => toPlan_any ls l bs rs (.agg #[.slice an ls.length cn, .slice ao l.length co, .slice as0 bs.length cs, .slice ar rs.length cr]) W hb hz2)
  have HTI1 := Lib.hid (fun W (hb : RowV W _ (S m1)) => toStringS_any m1 (.slice ma1 m1.length mc1) W hb (by omega))
  have HEI1 : Hid (∀ W x y, RowV W x (S m1) → RowV W y (S m1) → Calls Try.prog 12 #[x, y] W fun e w' => e = .returned (.bool true) ∧ Below W.heap.size W w') := fun W x y h1 h2 => by
    have := eqStringS_any m1 m1 x y W h1 h2 (by omega)
    rwa [decide_eq_true (rfl : m1 = m1)] at this
  have HTI2 := Lib.hid (fun W (hb : RowV W _ (S m2)) => toStringS_any m2 (.slice ma2 m2.length mc2) W hb (by omega))
  have HEI2 : Hid (∀ W x y, RowV W x (S m2) → RowV W y (S m2) → Calls Try.prog 12 #[x, y] W fun e w' => e = .returned (.bool true) ∧ Below W.heap.size W w') := fun W x y h1 h2 => by
    have := eqStringS_any m2 m2 x y W h1 h2 (by omega)
    rwa [decide_eq_true (rfl : m2 = m2)] at this
  have HE : Hid (∀ W x y, PlanV W x ls l bs rs → PlanV W y ls l bs rs → Calls Try.prog 11 #[x, y] W fun e w' => e = .returned (.bool true) ∧ Below W.heap.size W w') := fun W x y h1 h2 => eqPlan_same ls l bs rs x y W h1 h2 hz2
  have hne : (ok != ok) = false := by cases ok <;> rfl

  have HEQ : Hid (∀ W x y, RowV W x (I R) → RowV W y (I R) → Calls Try.prog 10 #[x, y] W fun e w' => e = .returned (.bool true) ∧ Below W.heap.size W w') := fun W x y h1 h2 => by
    have := eqIntS_any R R x y W h1 h2 (by omega)
    rwa [decide_eq_true (rfl : R = R)] at this
  have HMI : Hid (∀ B u W, World.ownsRow W B 3 1 u R.length (I R) → Calls Try.prog 15 #[u, .int .i64 1] W fun e w' => e = .returned (.int .i64 ((1 : Int) + (R.length : Int))) ∧ w'.ownsRow B 3 1 u R.length (I (marks 1 R.length)) ∧ W.grownBy w' u.ownBlock) := fun B u W h => markIntS_any R 1 B u W h (by omega) (by omega)
  have HHI : Hid (∀ u W, RowV W u (I (marks 1 R.length)) → Calls Try.prog 16 #[u, .int .i64 1] W fun e w' => e = .returned (.int .i64 ((1 : Int) + (R.length : Int))) ∧ Below W.heap.size W w') := fun u W h => heldIntS_any 1 R.length u W h (by omega) (by omega)
  have hk2 : decide ((1 : Int) + (R.length : Int) < 0) = false := decide_eq_false (by omega)
  have hqq : ((1 : Int) + (R.length : Int) != (1 : Int) + (R.length : Int)) = false := by simp
  have hz4 : planZ ls l bs rs ≤ 1048576 := by have := HR0.out; omega
  have HMG := Lib.hid (fun B u (W0 W : World) (h : PlanO B W0 u ls l bs rs) (hb : Below W0.heap.size W0 W) (hB : B ≤ W0.heap.size) => markPlan_any ls l bs rs B u W0 W h hb hB hz4)
  have hkk0 : (1 + markZ ls l bs rs) + 3 * (m1.length + m2.length) ≤ 3500000 := by have := HR2.out; unfold markZ totalG; unfold planZ at this; omega
  generalize hkz : 1 + markZ ls l bs rs = k0 at HMG hkk0
  have hkz1 : 1 ≤ k0 := by omega
  clear hkz hz4
  have HMM1 := Lib.hid (fun B u (W : World) (h : W.ownsRow B 9 1 u m1.length (S m1)) => markStringS_any m1 k0 B u W h (by omega) (by omega) (by omega))
  obtain ⟨k1, hke1⟩ : ∃ k1 : Nat, k1 = k0 + m1.length := ⟨_, rfl⟩
  have ek1 : (k0 : Int) + (m1.length : Int) = (k1 : Int) := by omega
  have HEK1 := Lib.hid ek1
  have HMM2 := Lib.hid (fun B u (W : World) (h : W.ownsRow B 9 1 u m2.length (S m2)) => markStringS_any m2 k1 B u W h (by omega) (by omega) (by omega))
  obtain ⟨k2, hke2⟩ : ∃ k2 : Nat, k2 = k1 + m2.length := ⟨_, rfl⟩
  have ek2 : (k1 : Int) + (m2.length : Int) = (k2 : Int) := by omega
  have HEK2 := Lib.hid ek2
  have hkd : decide ((k2 : Int) < 0) = false := decide_eq_false (by omega)
  clear hkk0 hke2 ek2 hke1 ek1
  -- the reference's answer
  go_wp2_with fail
  refine (HTO.out w1 (HPV.out w1 KX2.out)).mono ?_
  rintro e w2 ⟨v2, rfl, ho2', hb2⟩
  have K2 := Lib.hid (bth KX2.out hb2 (Nat.le_refl _))
  have HG2 := Lib.hid ho2'.view
  clear hb2 ho2' c0 c1 c2 c3
  go_wp2_with fail
  refine (HTI1.out w2 (HMV1.out w2 K2.out)).mono ?_
  rintro e p1 ⟨y1, rfl, hoy1, hbp1⟩
  have KP1 := Lib.hid (bth K2.out hbp1 (Nat.le_refl _))
  have HGP1 := Lib.hid (HG2.out.below hbp1)
  have HYP1_1 := Lib.hid (RowV.of_own hoy1)
  clear hoy1 hbp1
  go_wp2_with fail
  refine (HTI2.out p1 (HMV2.out p1 KP1.out)).mono ?_
  rintro e p2 ⟨y2, rfl, hoy2, hbp2⟩
  have KP2 := Lib.hid (bth KP1.out hbp2 (Nat.le_refl _))
  have HGP2 := Lib.hid (HGP1.out.below hbp2)
  have HYP1_2 := Lib.hid (HYP1_1.out.below hbp2)
  have HYP2_2 := Lib.hid (RowV.of_own hoy2)
  clear hoy2 hbp2
  go_wp2_with fail
  refine (HSP.out p2 v2 y1 y2 HGP2.out HYP1_2.out HYP2_2.out).mono ?_
  rintro e w3 ⟨v3, rfl, hw3, hb3⟩
  have K3 := Lib.hid (bth KP2.out hb3 (Nat.le_refl _))
  have HW := Lib.hid hw3
  have sa3 := K3.out.size
  clear hb3 hw3
  obtain ⟨c0, c1, c2, c3⟩ := (P0.out.below K3.out hlt0).cells
  -- copies of the arguments
  go_wp2_with fail
  refine (HTO.out w3 (HPV.out w3 K3.out)).mono ?_
  rintro e w4 ⟨v4, rfl, ho4, hb4⟩
  have s34 := hb4.size
  have HO4 := Lib.hid ho4
  obtain ⟨bn, dn, bo, do', bb, db, br, dr, rfl⟩ := ho4.slices
  obtain ⟨wb, hwb⟩ : ∃ wb, wb = w4.alloc (.cells #[.slice bn ls.length dn, .slice bo l.length do', .slice bb bs.length db, .slice br rs.length dr] 38) := ⟨_, rfl⟩
  have X4 : Hid (Blk4 wb w4.heap.size 38 (.slice bn ls.length dn) (.slice bo l.length do') (.slice bb bs.length db) (.slice br rs.length dr)) := by rw [hwb]; exact Blk4.new
  have hAB : Below w4.heap.size w4 wb := by rw [hwb]; exact (Below.refl w4.heap.size w4).alloc (Nat.le_refl _) _
  have hsb : wb.heap.size = w4.heap.size + 1 := by rw [hwb]; simp
  have D4 := Lib.hid (Below.refl wb.heap.size wb)
  have A4 := Lib.hid (bth hb4 hAB (Nat.le_refl _))
  have E4 := Lib.hid hAB
  have KW4 := Lib.hid (bth (bth K3.out hb4 (Nat.le_refl _)) hAB (Nat.le_refl _))
  have HWB := Lib.hid hwb
  clear hb4 ho4 c0 c1 c2 c3 hwb hAB
  go_wp2_with fail
  rw [← HWB.out]

  refine (HTI1.out wb (HMV1.out wb KW4.out)).mono ?_
  rintro e q1 ⟨x1, rfl, hox1, hbq1⟩
  have sq1 := hbq1.size
  have EQ1 := Lib.hid (bth E4.out hbq1 (Nat.le_refl _))
  have DQ1 := Lib.hid (bth D4.out hbq1 (Nat.le_refl _))
  have AQ1 := Lib.hid (bth A4.out hbq1 (Nat.le_refl _))
  have KQ1 := Lib.hid (bth KW4.out hbq1 (Nat.le_refl _))
  have hxl1 : Hid (∀ b, x1.ownBlock = some b → wb.heap.size ≤ b ∧ b < q1.heap.size) := fun b h => hox1.lt b h
  have HX1_1 := Lib.hid hox1
  clear hox1 hbq1
  go_wp2_with fail
  refine (HTI2.out q1 (HMV2.out q1 KQ1.out)).mono ?_
  rintro e q2 ⟨x2, rfl, hox2, hbq2⟩
  have sq2 := hbq2.size
  have EQ2 := Lib.hid (bth EQ1.out hbq2 (Nat.le_refl _))
  have DQ2 := Lib.hid (bth DQ1.out hbq2 (Nat.le_refl _))
  have AQ2 := Lib.hid (bth AQ1.out hbq2 (Nat.le_refl _))
  have KQ2 := Lib.hid (bth KQ1.out hbq2 (Nat.le_refl _))
  have hxl2 : Hid (∀ b, x2.ownBlock = some b → q1.heap.size ≤ b ∧ b < q2.heap.size) := fun b h => hox2.lt b h
  have HX1_2 := Lib.hid (own_below HX1_1.out hbq2)
  have HX2_2 := Lib.hid hox2
  clear hox2 hbq2
  obtain ⟨x00, x01, x02, x03⟩ := (X4.out.below DQ2.out (by omega)).cells
  -- the program's answer
  go_wp2_with fail
  refine (HIM.out q2 _ x1 x2 (HO4.out.view.below EQ2.out) (RowV.of_own HX1_2.out) (RowV.of_own HX2_2.out)).mono ?_
  rintro e w6 ⟨v6, rfl, hg6, hb6⟩
  have s6 := hb6.size
  have E6 := Lib.hid (bth EQ2.out hb6 (Nat.le_refl _))
  have D6 := Lib.hid (bth DQ2.out hb6 (Nat.le_refl _))
  have A6 := Lib.hid (bth AQ2.out hb6 (Nat.le_refl _))
  have K6 := Lib.hid (bth KQ2.out hb6 (Nat.le_refl _))
  have HX1_6 := Lib.hid (own_below HX1_2.out hb6)
  have HX2_6 := Lib.hid (own_below HX2_2.out hb6)
  have HG6 := Lib.hid hg6
  obtain ⟨g1, e1, rfl⟩ := own_slice hg6
  obtain ⟨g3, e3, hv3⟩ := own_slice HW.out
  subst hv3
  clear hb6 x00 x01 x02 x03 hg6
  go_wp2_with fail
  refine (HEQ.out w6 _ _ (RowV.of_own HG6.out) (RowV.of_own (own_below HW.out A6.out))).mono ?_
  rintro e w7 ⟨rfl, hb7⟩
  have s7 := hb7.size
  have E7 := Lib.hid (bth E6.out hb7 (Nat.le_refl _))
  have D7 := Lib.hid (bth D6.out hb7 (Nat.le_refl _))
  have A7 := Lib.hid (bth A6.out hb7 (Nat.le_refl _))
  have K7 := Lib.hid (bth K6.out hb7 (Nat.le_refl _))
  have HG7 := Lib.hid (own_below HG6.out hb7)
  have HX1_7 := Lib.hid (own_below HX1_6.out hb7)
  have HX2_7 := Lib.hid (own_below HX2_6.out hb7)
  clear hb7 HG6
  have hlt7 : w.heap.size < w7.heap.size := by omega
  have hlt8 : w4.heap.size < w7.heap.size := by omega
  have PD : Hid (Blk4 w7.drew w.heap.size 29 (.slice an ls.length cn) (.slice ao l.length co) (.slice as0 bs.length cs) (.slice ar rs.length cr)) := P0.out.below (Below.drew K7.out) hlt0
  have XD : Hid (Blk4 w7.drew w4.heap.size 38 (.slice bn ls.length dn) (.slice bo l.length do') (.slice bb bs.length db) (.slice br rs.length dr)) := X4.out.below (Below.drew D7.out) (by omega)
  have ks := And.intro PD.out.cells XD.out.cells
  have HX7 : Hid (PlanV w7.drew (.agg #[.slice bn ls.length dn, .slice bo l.length do', .slice bb bs.length db, .slice br rs.length dr]) ls l bs rs) := HO4.out.view.below (Below.drew E7.out)
  have HST7 : Hid (PlanV w7.drew (.agg #[.slice an ls.length cn, .slice ao l.length co, .slice as0 bs.length cs, .slice ar rs.length cr]) ls l bs rs) := HPV.out w7.drew (Below.drew K7.out)
  go_wp2_with fail
  -- the copy is as it was
  go_region_held3 (fun w' => (w'.cell? ⟨w.heap.size, 0, none⟩ = some (.slice an ls.length cn) ∧ w'.cell? ⟨w.heap.size, 1, none⟩ = some (.slice ao l.length co) ∧ w'.cell? ⟨w.heap.size, 2, none⟩ = some (.slice as0 bs.length cs) ∧ w'.cell? ⟨w.heap.size, 3, none⟩ = some (.slice ar rs.length cr)) ∧ (w'.cell? ⟨w4.heap.size, 0, none⟩ = some (.slice bn ls.length dn) ∧ w'.cell? ⟨w4.heap.size, 1, none⟩ = some (.slice bo l.length do') ∧ w'.cell? ⟨w4.heap.size, 2, none⟩ = some (.slice bb bs.length db) ∧ w'.cell? ⟨w4.heap.size, 3, none⟩ = some (.slice br rs.length dr))) (first | exact ks)
    (first
      | (go_at_call 7; refine (HTO.out _ (by exact HST7.out)).mono ?_; rintro e w7b ⟨v7, rfl, ho7, hb7⟩
         have ks := And.intro (PD.out.below hb7 hlt7).cells (XD.out.below hb7 hlt8).cells
         have HO7 := Lib.hid ho7.view
         have HXB := Lib.hid (PlanV.below (by exact HX7.out) hb7)
         have C7 := Lib.hid hb7
         clear ho7 hb7)
      | (go_at_call 11; refine (HE.out _ _ _ (by exact HXB.out) (by exact HO7.out)).mono ?_; rintro e w8 ⟨rfl, hb8⟩
         have C8 := Lib.hid (bth C7.out hb8 (Nat.le_refl _))
         have ks := And.intro (PD.out.below C8.out hlt7).cells (XD.out.below C8.out hlt8).cells
         clear hb8))
  all_goals
    have s8 : w7.heap.size ≤ w8.heap.size := C8.out.size
    have K8 := Lib.hid (bth (Below.drew K7.out) C8.out (Nat.le_refl _))
    have E8 := Lib.hid (bth (Below.drew E7.out) C8.out (Nat.le_refl _))
    have D8 := Lib.hid (bth (Below.drew D7.out) C8.out (Nat.le_refl _))
    have A8 := Lib.hid (bth (Below.drew A7.out) C8.out (Nat.le_refl _))
    have HG8 := Lib.hid (own_below (w := w7.drew) (show w7.drew.ownsRow q2.heap.size 3 1 _ _ _ from HG7.out) C8.out)
    have HX1_8 := Lib.hid (own_below (w := w7.drew) (show w7.drew.ownsRow wb.heap.size 9 1 _ _ _ from HX1_7.out) C8.out)
    have HX2_8 := Lib.hid (own_below (w := w7.drew) (show w7.drew.ownsRow q1.heap.size 9 1 _ _ _ from HX2_7.out) C8.out)
    clear ks PD XD HX7 HST7 HO7 HXB C7 C8 HG7
    go_wp2_with fail
    refine (HTI1.out w8 (HMV1.out w8 K8.out)).mono ?_
    rintro e r1 ⟨z1, rfl, hoz1, hbr1⟩
    have sr1 := hbr1.size
    have KR1 := Lib.hid (bth K8.out hbr1 (Nat.le_refl _))
    have ER1 := Lib.hid (bth E8.out hbr1 (Nat.le_refl _))
    have DR1 := Lib.hid (bth D8.out hbr1 (Nat.le_refl _))
    have AR1 := Lib.hid (bth A8.out hbr1 (Nat.le_refl _))
    have HGR1 := Lib.hid (own_below HG8.out hbr1)
    have HX1_R1 := Lib.hid (own_below HX1_8.out hbr1)
    have HX2_R1 := Lib.hid (own_below HX2_8.out hbr1)
    have HZ1 := Lib.hid (RowV.of_own hoz1)
    clear hoz1 hbr1
    go_wp2_with fail
    refine (HEI1.out r1 _ _ (RowV.of_own HX1_R1.out) HZ1.out).mono ?_
    rintro e s1 ⟨rfl, hbs1⟩
    have ss1 := hbs1.size
    have KS1 := Lib.hid (bth KR1.out hbs1 (Nat.le_refl _))
    have ES1 := Lib.hid (bth ER1.out hbs1 (Nat.le_refl _))
    have DS1 := Lib.hid (bth DR1.out hbs1 (Nat.le_refl _))
    have AS1 := Lib.hid (bth AR1.out hbs1 (Nat.le_refl _))
    have HGS1 := Lib.hid (own_below HGR1.out hbs1)
    have HX1_S1 := Lib.hid (own_below HX1_R1.out hbs1)
    have HX2_S1 := Lib.hid (own_below HX2_R1.out hbs1)
    clear hbs1 HZ1
    go_wp2_with fail
    refine (HTI2.out s1 (HMV2.out s1 KS1.out)).mono ?_
    rintro e r2 ⟨z2, rfl, hoz2, hbr2⟩
    have sr2 := hbr2.size
    have KR2 := Lib.hid (bth KS1.out hbr2 (Nat.le_refl _))
    have ER2 := Lib.hid (bth ES1.out hbr2 (Nat.le_refl _))
    have DR2 := Lib.hid (bth DS1.out hbr2 (Nat.le_refl _))
    have AR2 := Lib.hid (bth AS1.out hbr2 (Nat.le_refl _))
    have HGR2 := Lib.hid (own_below HGS1.out hbr2)
    have HX1_R2 := Lib.hid (own_below HX1_S1.out hbr2)
    have HX2_R2 := Lib.hid (own_below HX2_S1.out hbr2)
    have HZ2 := Lib.hid (RowV.of_own hoz2)
    clear hoz2 hbr2
    go_wp2_with fail
    refine (HEI2.out r2 _ _ (RowV.of_own HX2_R2.out) HZ2.out).mono ?_
    rintro e s2 ⟨rfl, hbs2⟩
    have ss2 := hbs2.size
    have KS2 := Lib.hid (bth KR2.out hbs2 (Nat.le_refl _))
    have ES2 := Lib.hid (bth ER2.out hbs2 (Nat.le_refl _))
    have DS2 := Lib.hid (bth DR2.out hbs2 (Nat.le_refl _))
    have AS2 := Lib.hid (bth AR2.out hbs2 (Nat.le_refl _))
    have HGS2 := Lib.hid (own_below HGR2.out hbs2)
    have HX1_S2 := Lib.hid (own_below HX1_R2.out hbs2)
    have HX2_S2 := Lib.hid (own_below HX2_R2.out hbs2)
    clear hbs2 HZ2
    obtain ⟨y0, y1', y2, y3⟩ := (X4.out.below DS2.out (by omega)).cells
    -- marks in the copies
    go_wp2_with fail
    refine (HMG.out w3.heap.size _ w4 s2 HO4.out ES2.out s34).mono ?_
    rintro e w9 ⟨rfl, hg9⟩
    have s9 := hg9.below.size
    have A9 := Lib.hid (AS2.out.trans hg9.below)
    have K9 := Lib.hid (KS2.out.trans (hg9.below.mono sa3))
    have HG9 := Lib.hid (hg9.own HGS2.out (by omega))
    have HX1_9 := Lib.hid (hg9.own HX1_S2.out (by omega))
    have HX2_9 := Lib.hid (hg9.own HX2_S2.out (by omega))
    clear hg9 y0 y1' y2 y3
    go_wp2_with fail
    refine (HMM1.out wb.heap.size _ w9 HX1_9.out).mono ?_
    rintro e t1 ⟨rfl, _, hgt1⟩
    have st1 := hgt1.size
    have hbt1 := below_ownG HX1_9.out hgt1 (by omega)
    have AT1 := Lib.hid (A9.out.trans (hbt1.mono (by omega)))
    have KT1 := Lib.hid (K9.out.trans (hbt1.mono (by omega)))
    have HGT1 := Lib.hid (own_apartG HG9.out hgt1 (fun b h1 h2 => by have := (hxl1.out b h1).2; have := (HG9.out.lt b h2).1; omega))
    have HX2_T1 := Lib.hid (own_apartG HX2_9.out hgt1 (fun b h1 h2 => by have := (hxl1.out b h1).2; have := (HX2_9.out.lt b h2).1; omega))
    clear hgt1 hbt1
    rw [HEK1.out]
    go_wp2_with fail
    refine (HMM2.out q1.heap.size _ t1 HX2_T1.out).mono ?_
    rintro e t2 ⟨rfl, _, hgt2⟩
    have st2 := hgt2.size
    have hbt2 := below_ownG HX2_T1.out hgt2 (by omega)
    have AT2 := Lib.hid (AT1.out.trans (hbt2.mono (by omega)))
    have KT2 := Lib.hid (KT1.out.trans (hbt2.mono (by omega)))
    have HGT2 := Lib.hid (own_apartG HGT1.out hgt2 (fun b h1 h2 => by have := (hxl2.out b h1).2; have := (HGT1.out.lt b h2).1; omega))
    clear hgt2 hbt2
    rw [HEK2.out]
    go_wp2_with fail
    refine (HEQ.out t2 _ _ (RowV.of_own HGT2.out) (RowV.of_own (own_below HW.out AT2.out))).mono ?_
    rintro e w10 ⟨rfl, hb10⟩
    have s10 := hb10.size
    have A10 := Lib.hid (bth AT2.out hb10 (Nat.le_refl _))
    have K10 := Lib.hid (bth KT2.out hb10 (Nat.le_refl _))
    have HG10 := Lib.hid (own_below HGT2.out hb10)
    clear hb10
    -- marks in the answer
    go_wp2_with fail
    refine (HMI.out q2.heap.size _ w10 HG10.out).mono ?_
    rintro e w11 ⟨rfl, ho11, hg11⟩
    have hbb := below_ownG HG10.out hg11 (by omega)
    have s11 := hg11.size
    have A11 := Lib.hid (A10.out.trans (hbb.mono (by omega)))
    have K11 := Lib.hid (K10.out.trans (hbb.mono (by omega)))
    have HM11 := Lib.hid ho11
    clear ho11 hg11 hbb HG10
    go_wp2_with fail
    refine (HHI.out _ w11 (by exact heldRow_I HM11.out)).mono ?_
    rintro e w12 ⟨rfl, hb12⟩
    have A12 := Lib.hid (bth A11.out hb12 (Nat.le_refl _))
    have K12 := Lib.hid (bth K11.out hb12 (Nat.le_refl _))
    have HM12 := Lib.hid (own_below HM11.out hb12)
    clear hb12 HM11
    obtain ⟨c0, c1, c2, c3⟩ := (P0.out.below K12.out hlt0).cells
    -- asked again
    go_wp2_with fail
    refine (HTO.out w12 (HPV.out w12 K12.out)).mono ?_
    rintro e w13 ⟨v13, rfl, ho13, hb13⟩
    have A13 := Lib.hid (bth A12.out hb13 (Nat.le_refl _))
    have K13 := Lib.hid (bth K12.out hb13 (Nat.le_refl _))
    have HM13 := Lib.hid (own_below HM12.out hb13)
    have HGZ0 := Lib.hid ho13.view
    clear hb13 ho13 c0 c1 c2 c3 HM12
    go_wp2_with fail
    refine (HTI1.out w13 (HMV1.out w13 K13.out)).mono ?_
    rintro e z1 ⟨yz1, rfl, hoz1, hbz1⟩
    have AZ1 := Lib.hid (bth A13.out hbz1 (Nat.le_refl _))
    have KZ1 := Lib.hid (bth K13.out hbz1 (Nat.le_refl _))
    have HMZ1 := Lib.hid (own_below HM13.out hbz1)
    have HGZ1 := Lib.hid (HGZ0.out.below hbz1)
    have HYZ1_1 := Lib.hid (RowV.of_own hoz1)
    clear hoz1 hbz1
    go_wp2_with fail
    refine (HTI2.out z1 (HMV2.out z1 KZ1.out)).mono ?_
    rintro e z2 ⟨yz2, rfl, hoz2, hbz2⟩
    have AZ2 := Lib.hid (bth AZ1.out hbz2 (Nat.le_refl _))
    have KZ2 := Lib.hid (bth KZ1.out hbz2 (Nat.le_refl _))
    have HMZ2 := Lib.hid (own_below HMZ1.out hbz2)
    have HGZ2 := Lib.hid (HGZ1.out.below hbz2)
    have HYZ1_2 := Lib.hid (HYZ1_1.out.below hbz2)
    have HYZ2_2 := Lib.hid (RowV.of_own hoz2)
    clear hoz2 hbz2
    go_wp2_with fail
    refine (HIM.out z2 v13 yz1 yz2 HGZ2.out HYZ1_2.out HYZ2_2.out).mono ?_
    rintro e w14 ⟨v14, rfl, ho14, hb14⟩
    have A14 := Lib.hid (bth AZ2.out hb14 (Nat.le_refl _))
    have K14 := Lib.hid (bth KZ2.out hb14 (Nat.le_refl _))
    have HM14 := Lib.hid (own_below HMZ2.out hb14)
    have HV14 := Lib.hid (RowV.of_own ho14)
    obtain ⟨g14, e14, rfl⟩ := own_slice ho14
    clear hb14 ho14
    go_wp2_with fail
    refine (HEQ.out w14 _ _ HV14.out (RowV.of_own (own_below HW.out A14.out))).mono ?_
    rintro e w15 ⟨rfl, hb15⟩
    have K15 := Lib.hid (bth K14.out hb15 (Nat.le_refl _))
    have HM15 := Lib.hid (own_below HM14.out hb15)
    clear hb15 HM14 HV14
    go_wp2_with fail
    refine (HHI.out _ w15 (by exact heldRow_I HM15.out)).mono ?_
    rintro e w16 ⟨rfl, hb16⟩
    have K16 := Lib.hid (bth K15.out hb16 (Nat.le_refl _))
    clear hb16
    go_wp2_with fail
    go_ret
    exact ⟨rfl, bth HA.out K16.out (Nat.le_refl _)⟩

end Go.Proofs.Ytcfhfhpdnjaokaa

/- Walks: whether a number is in a list, whether numbers rise (as chapter 2 has them). -/
namespace Go.Proofs.Ytcfhfhpdnjaokaa
open Go.RowKit Pth

theorem has_next {l : List Int} {n : Int} {k : Nat} (hk : k < l.length) (h : hasL l n = hasL (l.drop k) n) (hn : l[k] ≠ n) : hasL l n = hasL (l.drop (k + 1)) n := by
  rw [h, List.drop_eq_getElem_cons hk, hasL, hasL, Bool.eq_iff_iff, decide_eq_true_iff, decide_eq_true_iff, List.mem_cons]
  constructor
  · rintro (h | h)
    · exact absurd h.symm hn
    · exact h
  · exact .inr

set_option maxHeartbeats 1000000 in
theorem l1Rising_any (l : List Int) (lo hi : Int) (v : Value) (w : World) (hrow : RowV w v (I l)) :
    Calls Try.prog 60 #[v, .int .i64 lo, .int .i64 hi] w fun e w' => e = .returned (.bool (riseB lo hi l)) ∧ w = w' := by
  obtain ⟨a, cap, rfl, hc1, hc2, hat⟩ := hrow.ints
  clear hrow
  unfold maxLen at hc2
  go_enter Try.func60, Try.ntmps60
  go_wp2_with fail
  go_loop [11] (fun i => ∃ k : Nat, k ≤ l.length ∧ i = .int .i64 k ∧ Hid (Rise (l.take k) ∧ Within lo hi (l.take k))) (fun i => l.length - (intOf i).toNat)
  case atStart => exact ⟨0, Nat.zero_le _, rfl, by simp [Rise, Hid, Within]⟩
  case round =>
    obtain ⟨k, hk, rfl, HO⟩ := hrel
    by_cases hlt : k < l.length
    · obtain ⟨g, o, rfl, hg, hcell⟩ := hat k hlt
      by_cases hx : lo ≤ l[k] ∧ l[k] ≤ hi
      · have hx1 : (decide (lo ≤ l[k]) && decide (l[k] ≤ hi)) = true := by simp [hx]
        by_cases h0 : 0 < k
        · obtain ⟨g', o', hA, _, hcell0⟩ := hat (k - 1) (by omega)
          injection hA with hA
          injection hA with hA1 hA2
          subst hA1 hA2
          by_cases hy : l[k - 1] < l[k]
          · have HR : Hid (Rise (l.take (k + 1)) ∧ Within lo hi (l.take (k + 1))) := rise_next hlt HO.out hx.1 hx.2 (fun _ => hy)
            generalize l[k] = x at hcell hx hx1 hy
            generalize l[k - 1] = y at hcell0 hy
            clear hat HO hx
            have hk0 : decide ((k : Int) > 0) = true := by simp; omega
            have hy1 : decide (y ≥ x) = false := by simp; omega
            go_wp2_with (go_at_call 58; refine (l1In_any _ _ _ _).mono ?_; rintro e w' ⟨rfl, rfl⟩)
            all_goals
              go_round
              case rel => exact ⟨k + 1, by omega, by go_num, HR⟩
              case measure => simp [intOf]; omega
          · have HR : Hid (riseB lo hi l = false) := rise_fall hlt h0 (by omega)
            generalize l[k] = x at hcell hx hx1 hy
            generalize l[k - 1] = y at hcell0 hy
            clear hat HO hx
            have hk0 : decide ((k : Int) > 0) = true := by simp; omega
            have hy1 : decide (y ≥ x) = true := by simp; omega
            go_wp2_with (go_at_call 58; refine (l1In_any _ _ _ _).mono ?_; rintro e w' ⟨rfl, rfl⟩)
            all_goals
              go_ret
              exact ⟨ret_bool HR.out.symm, rfl⟩
        · have HR : Hid (Rise (l.take (k + 1)) ∧ Within lo hi (l.take (k + 1))) := rise_next hlt HO.out hx.1 hx.2 (fun h => absurd h h0)
          generalize l[k] = x at hcell hx hx1
          clear hat HO hx
          have hk0 : decide ((k : Int) > 0) = false := by simp; omega
          go_wp2_with (go_at_call 58; refine (l1In_any _ _ _ _).mono ?_; rintro e w' ⟨rfl, rfl⟩)
          all_goals
            go_round
            case rel => exact ⟨k + 1, by omega, by go_num, HR⟩
            case measure => simp [intOf]; omega
      · have HR : Hid (riseB lo hi l = false) := rise_out hlt (by omega)
        have hx1 : (decide (lo ≤ l[k]) && decide (l[k] ≤ hi)) = false := by
          rw [Bool.eq_false_iff]; intro h; rw [Bool.and_eq_true, decide_eq_true_iff, decide_eq_true_iff] at h; exact hx h
        generalize l[k] = x at hcell hx hx1
        clear hat HO hx
        go_wp2_with (go_at_call 58; refine (l1In_any _ _ _ _).mono ?_; rintro e w' ⟨rfl, rfl⟩)
        all_goals
          go_ret
          exact ⟨ret_bool HR.out.symm, rfl⟩
    · have HR : Hid (riseB lo hi l = true) := by have := HO.out; rw [List.take_of_length_le (by omega)] at this; exact riseB_iff.2 this
      clear HO hat
      go_wp2_with fail
      go_ret
      exact ⟨ret_bool HR.out.symm, rfl⟩

/-- All between two. -/
def allB (lo hi : Int) (l : List Int) : Bool := decide (∀ x ∈ l, lo ≤ x ∧ x ≤ hi)
set_option maxHeartbeats 1000000 in
theorem l1All_any (l : List Int) (lo hi : Int) (v : Value) (w : World) (hrow : RowV w v (I l)) :
    Calls Try.prog 59 #[v, .int .i64 lo, .int .i64 hi] w fun e w' => e = .returned (.bool (allB lo hi l)) ∧ w = w' := by
  obtain ⟨a, cap, rfl, hc1, hc2, hat⟩ := hrow.ints
  clear hrow
  unfold maxLen at hc2
  go_enter Try.func59, Try.ntmps59
  go_wp2_with fail
  go_loop [11] (fun i => ∃ k : Nat, k ≤ l.length ∧ i = .int .i64 k ∧ Hid (∀ x ∈ l.take k, lo ≤ x ∧ x ≤ hi)) (fun i => l.length - (intOf i).toNat)
  case atStart => exact ⟨0, Nat.zero_le _, rfl, by simp [Hid]⟩
  case round =>
    obtain ⟨k, hk, rfl, HO⟩ := hrel
    by_cases hlt : k < l.length
    · obtain ⟨g, o, rfl, hg, hcell⟩ := hat k hlt
      by_cases hx : lo ≤ l[k] ∧ l[k] ≤ hi
      · have hx1 : (decide (lo ≤ l[k]) && decide (l[k] ≤ hi)) = true := by simp [hx]
        have HR : Hid (∀ x ∈ l.take (k + 1), lo ≤ x ∧ x ≤ hi) := by
          intro x hxm
          rw [List.take_succ_eq_append_getElem hlt, List.mem_append, List.mem_singleton] at hxm
          rcases hxm with h | h
          · exact HO.out x h
          · rw [h]; exact hx
        generalize l[k] = x at hcell hx hx1
        clear hat HO hx
        go_wp2_with (go_at_call 58; refine (l1In_any _ _ _ _).mono ?_; rintro e w' ⟨rfl, rfl⟩)
        all_goals
          go_round
          case rel => exact ⟨k + 1, by omega, by go_num, HR⟩
          case measure => simp [intOf]; omega
      · have HR : Hid (allB lo hi l = false) := by
          rw [allB, decide_eq_false_iff_not]; exact fun h => hx (h _ (List.getElem_mem hlt))
        have hx1 : (decide (lo ≤ l[k]) && decide (l[k] ≤ hi)) = false := by
          rw [Bool.eq_false_iff]; intro h; rw [Bool.and_eq_true, decide_eq_true_iff, decide_eq_true_iff] at h; exact hx h
        generalize l[k] = x at hcell hx hx1
        clear hat HO hx
        go_wp2_with (go_at_call 58; refine (l1In_any _ _ _ _).mono ?_; rintro e w' ⟨rfl, rfl⟩)
        all_goals
          go_ret
          exact ⟨ret_bool HR.out.symm, rfl⟩
    · have HR : Hid (allB lo hi l = true) := by have := HO.out; rw [List.take_of_length_le (by omega)] at this; rw [allB, decide_eq_true_iff]; exact this
      clear HO hat
      go_wp2_with fail
      go_ret
      exact ⟨ret_bool HR.out.symm, rfl⟩

end Go.Proofs.Ytcfhfhpdnjaokaa

/- Walks: the place of a number in a list; whether a graph is good, as the reference has it. -/
namespace Go.Proofs.Ytcfhfhpdnjaokaa
open Go.RowKit Pth

theorem not_take {l : List Int} {n : Int} {k : Nat} (hk : k < l.length) (h : n ∉ l.take k) (hx : ¬ l[k] = n) : n ∉ l.take (k + 1) := by
  rw [List.take_succ_eq_append_getElem hk, List.mem_append, List.mem_singleton]
  rintro (h' | h')
  · exact h h'
  · exact hx h'.symm
theorem ret_int {a b : Int} (h : a = b) : Ending.returned (.int .i64 a) = .returned (.int .i64 b) := by rw [h]

set_option maxHeartbeats 1000000 in
theorem l5Place_any (l : List Int) (n : Int) (v : Value) (w : World) (hrow : RowV w v (I l)) :
    Calls Try.prog 61 #[v, .int .i64 n] w fun e w' => e = .returned (.int .i64 (placeI l n)) ∧ w = w' := by
  obtain ⟨a, cap, rfl, hc1, hc2, hat⟩ := hrow.ints
  clear hrow
  unfold maxLen at hc2
  go_enter Try.func61, Try.ntmps61
  go_wp2_with fail
  go_loop [9] (fun i => ∃ k : Nat, k ≤ l.length ∧ i = .int .i64 k ∧ Hid (n ∉ l.take k)) (fun i => l.length - (intOf i).toNat)
  case atStart => exact ⟨0, Nat.zero_le _, rfl, by simp [Hid]⟩
  case round =>
    obtain ⟨k, hk, rfl, HO⟩ := hrel
    by_cases hlt : k < l.length
    · obtain ⟨g, o, rfl, hg, hcell⟩ := hat k hlt
      clear hat
      by_cases hx : l[k] = n
      · have HR : Hid (placeI l n = k) := place_at hlt HO.out hx
        have hx1 : (l[k] == n) = true := by simp [hx]
        generalize l[k] = x at hcell hx hx1
        clear HO hx
        go_wp2_with fail
        go_ret
        exact ⟨ret_int HR.out.symm, rfl⟩
      · have HR : Hid (n ∉ l.take (k + 1)) := not_take hlt HO.out hx
        have hx1 : (l[k] == n) = false := by simp [hx]
        generalize l[k] = x at hcell hx hx1
        clear HO hx
        go_wp2_with fail
        go_round
        case rel => exact ⟨k + 1, by omega, by go_num, HR⟩
        case measure => simp [intOf]; omega
    · have HR : Hid (placeI l n = -1) := by have := HO.out; rw [List.take_of_length_le (by omega)] at this; exact place_none this
      clear HO hat
      go_wp2_with fail
      go_ret
      exact ⟨ret_int HR.out.symm, rfl⟩

/-- One task is as it should be. -/
def TaskOk (ls : List (List Int)) (l : List Int) (k : Nat) (hk : k < ls.length) : Prop := (Rise ls[k] ∧ Within 0 ((ls.length : Int) - 1) ls[k]) ∧ (k : Int) ∈ l ∧ ∀ x ∈ ls[k], placeI l x < placeI l k

set_option maxRecDepth 20000 in
set_option maxHeartbeats 4000000 in
theorem specGood_any (ls : List (List Int)) (l : List Int) (v : Value) (w : World) (hst : GraphV w v ls l) :
    Calls Try.prog 50 #[v] w fun e w' => e = .returned (.bool (goodG ls l)) ∧ Below w.heap.size w w' := by
  obtain ⟨nv, ov, rfl, h1, h2⟩ := hst
  have H1 := Lib.hid h1
  have H2 := Lib.hid h2
  obtain ⟨an, cn, rfl, hn1, hn2, hat⟩ := h1.lists
  obtain ⟨ao, co, rfl, ho1, ho2, _⟩ := h2.ints
  clear h1 h2
  unfold maxLen at hn2 ho2
  have nog : ∀ {P : Prop}, (GoodG ls l → P) → ¬ P → Hid (goodG ls l = false) := fun h1 h2 => goodG_no (fun h => h2 (h1 h))
  obtain ⟨wa, hwa⟩ : ∃ wa, wa = w.alloc (.cells #[.slice an ls.length cn, .slice ao l.length co] 35) := ⟨_, rfl⟩
  have c0 : wa.cell? ⟨w.heap.size, 0, none⟩ = some (.slice an ls.length cn) := by rw [hwa]; simp
  have c1 : wa.cell? ⟨w.heap.size, 1, none⟩ = some (.slice ao l.length co) := by rw [hwa]; simp
  have HA : Hid (Below w.heap.size w wa) := by rw [hwa]; exact (Below.refl w.heap.size w).alloc (Nat.le_refl _) _
  have HWA := Lib.hid hwa
  clear hwa
  have CI := l1In_any (ls.length : Int) 1 10 wa
  have CA := l1All_any l 0 ((ls.length : Int) - 1) _ wa (H2.out.below HA.out)
  by_cases h1 : 1 ≤ ls.length ∧ ls.length ≤ 10
  · have e1 : (decide ((1 : Int) ≤ (ls.length : Int)) && decide ((ls.length : Int) ≤ 10)) = true := by simp; omega
    rw [e1] at CI
    have HCI := Lib.hid CI
    clear CI e1
    by_cases h2 : l.length = ls.length
    · have e2 : ((l.length : Int) != (ls.length : Int)) = false := by simp [h2]
      have HL := Lib.hid h2
      by_cases h3 : ∀ x ∈ l, 0 ≤ x ∧ x ≤ (ls.length : Int) - 1
      · have e3 : allB 0 ((ls.length : Int) - 1) l = true := by rw [allB, decide_eq_true_iff]; exact h3
        rw [e3] at CA
        have HCA := Lib.hid CA
        have H3 := Lib.hid h3
        clear CA e3 h3 h2
        obtain ⟨h1a, h1b⟩ := h1
        go_enter Try.func50, Try.ntmps50
        go_wp2_with fail
        rw [← HWA.out]
        refine HCI.out.mono ?_
        rintro e w1 ⟨rfl, rfl⟩
        go_wp2_with fail
        refine HCA.out.mono ?_
        rintro e w1 ⟨rfl, rfl⟩
        go_wp2_with fail
        clear HCI HCA HWA e2
        have hsz : w.heap.size < wa.heap.size := by exact World.block_lt_of_cell? _ _ c0
        go_loopw [32] (fun i wr => ∃ k : Nat, k ≤ ls.length ∧ i = .int .i64 k ∧ Hid (∀ j (hj : j < ls.length), j < k → TaskOk ls l j hj) ∧ Below wa.heap.size wa wr) (fun i _ => ls.length - (intOf i).toNat)
        case atStart => exact ⟨0, Nat.zero_le _, rfl, fun j hj h => by omega, Below.refl _ _⟩
        case round =>
          obtain ⟨k, hk, rfl, HO, hb⟩ := hrel
          have HB := Lib.hid hb
          have HBW := Lib.hid (bth HA.out hb (Nat.le_refl _))
          have d0 := (hb.cell (p := ⟨w.heap.size, 0, none⟩) hsz).trans c0
          have d1 := (hb.cell (p := ⟨w.heap.size, 1, none⟩) hsz).trans c1
          have HC0 := Lib.hid c0
          have HC1 := Lib.hid c1
          clear hb c0 c1
          by_cases hlt : k < ls.length
          · obtain ⟨g, o, a2, c2, rfl, hg, hcell0, hrk⟩ := hat k hlt
            have hcell : wr.cell? ⟨g, o + k, none⟩ = some (.slice a2 ls[k].length c2) := by rw [HBW.out.cell (p := ⟨g, o + k, none⟩) hg]; exact hcell0
            have CR := l1Rising_any ls[k] 0 ((ls.length : Int) - 1) _ wr (hrk.below HBW.out)
            have CP := l5Place_any l (k : Int) _ wr (H2.out.below HBW.out)
            by_cases hr : Rise ls[k] ∧ Within 0 ((ls.length : Int) - 1) ls[k]
            · rw [riseB_iff.2 hr] at CR
              have HCR := Lib.hid CR
              clear CR
              by_cases hm : (k : Int) ∈ l
              · have hp0 : ¬ (placeI l k < 0) := by have := place_nonneg.2 hm; omega
                have HCP := Lib.hid CP
                have HRK := Lib.hid hrk
                have HM := Lib.hid hm
                have HRR := Lib.hid hr
                have hkl : ls[k].length ≤ c2 ∧ c2 ≤ maxLen := by obtain ⟨a3, c3, he, h1, h2, _⟩ := hrk.ints; injection he with _ _ he; omega
                obtain ⟨hkl1, hkl2⟩ := hkl
                obtain ⟨a3, c3, he3, _, _, hatk⟩ := hrk.ints
                injection he3 with he3 _ he4
                subst he3 he4
                unfold maxLen at hkl2
                clear CP hcell0 hm hr hat hrk
                generalize hpk : placeI l k = pk at hp0 HCP
                have HPK := Lib.hid hpk
                clear hpk
                go_wp2_with fail
                refine HCR.out.mono ?_
                rintro e w' ⟨rfl, rfl⟩
                go_wp2_with fail
                refine HCP.out.mono ?_
                rintro e w' ⟨rfl, rfl⟩
                go_wp2_with fail
                clear HCR HCP d0 d1 hcell
                go_loopw [51] (fun i wq => ∃ j : Nat, j ≤ ls[k].length ∧ i = .int .i64 j ∧ Hid (∀ x ∈ ls[k].take j, placeI l x < pk) ∧ Below wa.heap.size wa wq) (fun i _ => ls[k].length - (intOf i).toNat)
                case atStart => exact ⟨0, Nat.zero_le _, rfl, by simp [Hid], HB.out⟩
                case round =>
                  clear HB HBW
                  obtain ⟨j, hj, rfl, HJ, hb⟩ := hrel
                  have HB := Lib.hid hb
                  have HBW := Lib.hid (bth HA.out hb (Nat.le_refl _))
                  have d1 := (hb.cell (p := ⟨w.heap.size, 1, none⟩) hsz).trans HC1.out
                  have HP := Lib.hid (fun (q : Nat) (x : Int) => (l5Place_any l x _ (wr.drewN q) (H2.out.below (below_drewN HBW.out q))).mono (fun e w' ⟨h1, h2⟩ => And.intro h1 h2.symm))
                  clear hb
                  by_cases hjt : j < ls[k].length
                  · obtain ⟨g2, o2, rfl, hg2, hcell0⟩ := hatk j hjt
                    have hcell : wr.cell? ⟨g2, o2 + j, none⟩ = some (.int .i64 ls[k][j]) := by rw [HBW.out.cell (p := ⟨g2, o2 + j, none⟩) hg2]; exact hcell0
                    clear hcell0 hatk
                    by_cases hx : placeI l ls[k][j] < pk
                    · have hx1 : decide (placeI l ls[k][j] ≥ pk) = false := by simp; omega
                      have HJ2 : Hid (∀ x ∈ ls[k].take (j + 1), placeI l x < pk) := by
                        intro x hxm
                        rw [List.take_succ_eq_append_getElem hjt, List.mem_append, List.mem_singleton] at hxm
                        rcases hxm with h | h
                        · exact HJ.out x h
                        · rw [h]; exact hx
                      clear HJ hx
                      rw [← HPK.out] at hx1
                      generalize ls[k][j] = x at hcell hx1
                      go_wp2_with fail
                      go_quiet ((go_at_call 61; exact Calls.quiet_of_same (HP.out _ _)))
                      go_wp2_with fail
                      go_roundw
                      case rel => exact ⟨j + 1, by omega, by go_num, HJ2, below_drewN HB.out _⟩
                      case measure => simp [intOf]; omega
                    · have HR := nog (fun h => (h.each k hlt).2.2 _ (List.getElem_mem hjt)) (by rw [HPK.out]; exact hx)
                      have hx1 : decide (placeI l ls[k][j] ≥ pk) = true := by simp; omega
                      clear HJ hx
                      rw [← HPK.out] at hx1
                      generalize ls[k][j] = x at hcell hx1
                      go_wp2_with fail
                      go_quiet ((go_at_call 61; exact Calls.quiet_of_same (HP.out _ _)))
                      go_wp2_with fail
                      go_ret
                      exact ⟨ret_bool HR.out.symm, below_drewN HBW.out _⟩
                  · have HT : Hid (∀ i (hi : i < ls.length), i < k + 1 → TaskOk ls l i hi) := by
                      intro i hi hik
                      rcases Nat.lt_or_ge i k with h | h
                      · exact HO.out i hi h
                      · obtain rfl : i = k := by omega
                        refine ⟨HRR.out, HM.out, fun x hx => ?_⟩
                        rw [HPK.out]
                        have := HJ.out
                        rw [List.take_of_length_le (by omega)] at this
                        exact this x hx
                    clear HJ HO HP hatk
                    go_wp2_with fail
                    go_roundw
                    case rel => exact ⟨k + 1, by omega, by go_num, HT, HB.out⟩
                    case measure => simp [intOf]; omega
              · have hp0 : placeI l k < 0 := by rw [place_none hm]; omega
                have HCP := Lib.hid CP
                have HR := nog (fun h => (h.each k hlt).2.1) hm
                clear CP hcell0 hm hr hat nog hrk
                generalize placeI l k = pk at hp0 HCP
                go_wp2_with fail
                refine HCR.out.mono ?_
                rintro e w' ⟨rfl, rfl⟩
                go_wp2_with fail
                refine HCP.out.mono ?_
                rintro e w' ⟨rfl, rfl⟩
                go_wp2_with fail
                all_goals
                  go_ret
                  exact ⟨ret_bool HR.out.symm, HBW.out⟩
            · rw [riseB_false hr] at CR
              have HCR := Lib.hid CR
              have HR := nog (fun h => (h.each k hlt).1) hr
              clear CR CP hcell0 hr hat nog hrk
              go_wp2_with fail
              refine HCR.out.mono ?_
              rintro e w' ⟨rfl, rfl⟩
              go_wp2_with fail
              all_goals
                go_ret
                exact ⟨ret_bool HR.out.symm, HBW.out⟩
          · have HR : Hid (goodG ls l = true) := goodG_iff.2 ⟨h1a, h1b, HL.out, H3.out, fun j hj => HO.out j hj (by omega)⟩
            clear HO hat nog
            go_wp2_with fail
            go_ret
            exact ⟨ret_bool HR.out.symm, HBW.out⟩
      · have e3 : allB 0 ((ls.length : Int) - 1) l = false := by rw [allB, decide_eq_false_iff_not]; exact h3
        have HR := nog (fun h => h.tasks) h3
        rw [e3] at CA
        have HCA := Lib.hid CA
        clear CA e3 h3 h2 nog hat
        obtain ⟨h1a, h1b⟩ := h1
        go_enter Try.func50, Try.ntmps50
        go_wp2_with fail
        rw [← HWA.out]
        refine HCI.out.mono ?_
        rintro e w1 ⟨rfl, rfl⟩
        go_wp2_with fail
        refine HCA.out.mono ?_
        rintro e w1 ⟨rfl, rfl⟩
        go_wp2_with fail
        go_ret
        exact ⟨ret_bool HR.out.symm, HA.out⟩
    · have e2 : ((l.length : Int) != (ls.length : Int)) = true := by simp; omega
      have HR := nog (fun h => h.same) h2
      clear h2 nog CA hat
      obtain ⟨h1a, h1b⟩ := h1
      go_enter Try.func50, Try.ntmps50
      go_wp2_with fail
      rw [← HWA.out]
      refine HCI.out.mono ?_
      rintro e w1 ⟨rfl, rfl⟩
      go_wp2_with fail
      go_ret
      exact ⟨ret_bool HR.out.symm, HA.out⟩
  · have e1 : (decide ((1 : Int) ≤ (ls.length : Int)) && decide ((ls.length : Int) ≤ 10)) = false := by
      rw [Bool.eq_false_iff]; intro h; rw [Bool.and_eq_true, decide_eq_true_iff, decide_eq_true_iff] at h; omega
    have HR := nog (fun h => And.intro h.low h.high) h1
    rw [e1] at CI
    have HCI := Lib.hid CI
    clear CI e1 h1 nog CA hat
    go_enter Try.func50, Try.ntmps50
    go_wp2_with fail
    rw [← HWA.out]
    refine HCI.out.mono ?_
    rintro e w1 ⟨rfl, rfl⟩
    go_wp2_with fail
    go_ret
    exact ⟨ret_bool HR.out.symm, HA.out⟩
end Go.Proofs.Ytcfhfhpdnjaokaa

/- Walks: whether a graph is good, as the program has it. -/
namespace Go.Proofs.Ytcfhfhpdnjaokaa
open Go.RowKit Pth

/-- Yes-or-no as cells. -/
def Bo (l : List Bool) : List Value := l.map fun x => .bool x
theorem Bo_len (l : List Bool) : (Bo l).length = l.length := by simp [Bo]
theorem Bo_get {l : List Bool} {k : Nat} (hk : k < l.length) : (Bo l)[k]'(by rw [Bo_len]; exact hk) = .bool l[k] := by simp [Bo]
theorem Bo_get? {l : List Bool} {k : Nat} (hk : k < l.length) : (Bo l)[k]? = some (.bool l[k]) := by simp [Bo, hk]
theorem Bo_set (l : List Bool) (k : Nat) (b : Bool) : (Bo l).set k (.bool b) = Bo (l.set k b) := by simp [Bo, List.map_set]
theorem Bo_rep (n : Nat) (b : Bool) : Bo (List.replicate n b) = List.replicate n (.bool b) := by simp [Bo]
theorem RowV.bools {w : World} {v : Value} {l : List Bool} (h : RowV w v (Bo l)) :
    ∃ a c, v = .slice a l.length c ∧ l.length ≤ c ∧ c ≤ maxLen ∧ ∀ k (hk : k < l.length), ∃ g o, a = some ⟨g, o, none⟩ ∧ g < w.heap.size ∧ w.cell? ⟨g, o + k, none⟩ = some (.bool l[k]) := by
  obtain ⟨a, c, hv, h1, h2, hat⟩ := h
  refine ⟨a, c, by rw [hv, Bo_len], by rw [Bo_len] at h1; exact h1, h2, fun k hk => ?_⟩
  obtain ⟨g, o, ha, hg, hc⟩ := hat k (by rw [Bo_len]; exact hk)
  exact ⟨g, o, ha, hg, by rw [hc]; simp [Bo]⟩

theorem RowV.marks {w : World} {v : Value} {n : Nat} {pre : List Int} (h : RowV w v (Bo (marksIn n pre))) :
    ∃ a c, v = .slice a n c ∧ n ≤ c ∧ c ≤ maxLen ∧ ∀ k (_ : k < n), ∃ g o, a = some ⟨g, o, none⟩ ∧ g < w.heap.size ∧ w.cell? ⟨g, o + k, none⟩ = some (.bool (decide ((k : Int) ∈ pre))) := by
  obtain ⟨a, c, hv, h1, h2, hat⟩ := h.bools
  have hl := marksIn_len n pre
  refine ⟨a, c, by rw [hv, hl], by omega, h2, fun k hk => ?_⟩
  obtain ⟨g, o, ha, hg, hc⟩ := hat k (by omega)
  exact ⟨g, o, ha, hg, by rw [hc, marksIn_at]⟩

set_option maxRecDepth 20000 in
set_option maxHeartbeats 2000000 in
theorem areNeeds_any (l pre : List Int) (n : Nat) (v u : Value) (w : World) (hrow : RowV w v (I l)) (hpl : RowV w u (Bo (marksIn n pre))) (hpre : ∀ x ∈ pre, 0 ≤ x ∧ x < n) :
    Calls Try.prog 64 #[v, u] w fun e w' => e = .returned (.bool (needsB l pre)) ∧ w = w' := by
  obtain ⟨a, cap, rfl, hc1, hc2, hat⟩ := hrow.ints
  obtain ⟨a2, cap2, rfl, hd1, hd2, hat2⟩ := hpl.marks
  clear hrow hpl
  unfold maxLen at hc2 hd2
  go_enter Try.func64, Try.ntmps64
  go_wp2_with fail
  go_loop [9] (fun i => ∃ k : Nat, k ≤ l.length ∧ i = .int .i64 k ∧ Hid (Rise (l.take k) ∧ ∀ x ∈ l.take k, x ∈ pre)) (fun i => l.length - (intOf i).toNat)
  case atStart => exact ⟨0, Nat.zero_le _, rfl, by simp [Hid, Rise]⟩
  case round =>
    obtain ⟨k, hk, rfl, HO⟩ := hrel
    by_cases hlt : k < l.length
    · obtain ⟨g, o, rfl, hg, hcell⟩ := hat k hlt
      by_cases hx : l[k] ∈ pre
      · obtain ⟨hx0, hxn⟩ := hpre _ hx
        obtain ⟨g2, o2, rfl, hg2, hcell2⟩ := hat2 l[k].toNat (by omega)
        rw [show ((l[k].toNat : Nat) : Int) = l[k] by omega, decide_eq_true hx] at hcell2
        by_cases h0 : 0 < k
        · obtain ⟨g', o', hA, _, hcell1⟩ := hat (k - 1) (by omega)
          obtain ⟨rfl, rfl⟩ := addr_inj hA
          have hk0 : decide ((k : Int) > 0) = true := by simp; omega
          by_cases hy : l[k - 1] < l[k]
          · have HR := Lib.hid (needs_next hlt HO.out hx (fun _ => hy))
            have hy1 : decide (l[k - 1] ≥ l[k]) = false := by simp; omega
            clear hat hat2 HO hx hpre hA
            generalize l[k] = x at *
            generalize l[k - 1] = y at *
            go_wp2_with fail
            go_round
            case rel => exact ⟨k + 1, by omega, by go_num, HR⟩
            case measure => simp [intOf]; omega
          · have HR : Hid (needsB l pre = false) := needs_fall hlt h0 (by omega)
            have hy1 : decide (l[k - 1] ≥ l[k]) = true := by simp; omega
            clear hat hat2 HO hx hpre hA
            generalize l[k] = x at *
            generalize l[k - 1] = y at *
            go_wp2_with fail
            go_ret
            exact ⟨ret_bool HR.out.symm, rfl⟩
        · have HR := Lib.hid (needs_next hlt HO.out hx (fun h => absurd h h0))
          have hk0 : decide ((k : Int) > 0) = false := by simp; omega
          clear hat hat2 HO hx hpre
          generalize l[k] = x at *
          go_wp2_with fail
          go_round
          case rel => exact ⟨k + 1, by omega, by go_num, HR⟩
          case measure => simp [intOf]; omega
      · have HR : Hid (needsB l pre = false) := needs_not hlt hx
        by_cases hx0 : l[k] < 0
        · clear hat hat2 HO hx hpre
          generalize l[k] = x at *
          go_wp2_with fail
          go_ret
          exact ⟨ret_bool HR.out.symm, rfl⟩
        · by_cases hxn : l[k] < n
          · obtain ⟨g2, o2, rfl, hg2, hcell2⟩ := hat2 l[k].toNat (by omega)
            rw [show ((l[k].toNat : Nat) : Int) = l[k] by omega, decide_eq_false hx] at hcell2
            clear hat hat2 HO hx hpre
            generalize l[k] = x at *
            go_wp2_with fail
            go_ret
            exact ⟨ret_bool HR.out.symm, rfl⟩
          · clear hat hat2 HO hx hpre
            generalize l[k] = x at *
            go_wp2_with fail
            go_ret
            exact ⟨ret_bool HR.out.symm, rfl⟩
    · have HR : Hid (needsB l pre = true) := by have := HO.out; rw [List.take_of_length_le (by omega)] at this; exact needsB_iff.2 this
      clear HO hat hat2 hpre
      go_wp2_with fail
      go_ret
      exact ⟨ret_bool HR.out.symm, rfl⟩

set_option maxHeartbeats 1000000 in
theorem isTask_any (ls : List (List Int)) (l : List Int) (k : Int) (v : Value) (w : World) (hst : GraphV w v ls l) :
    Calls Try.prog 63 #[v, .int .i64 k] w fun e w' => e = .returned (.bool (decide (0 ≤ k) && decide (k < (ls.length : Int)))) ∧ Below w.heap.size w w' := by
  obtain ⟨nv, ov, rfl, h1, h2⟩ := hst
  obtain ⟨an, cn, rfl, hn1, hn2, _⟩ := h1.lists
  obtain ⟨ao, co, rfl, ho1, ho2, _⟩ := h2.ints
  clear h1 h2
  unfold maxLen at hn2 ho2
  go_enter Try.func63, Try.ntmps63
  go_wp2_with fail
  all_goals
    go_ret
    exact ⟨ret_bool (by rw [Bool.eq_iff_iff]; simp <;> omega), (Below.refl w.heap.size w).alloc (Nat.le_refl _) _⟩

/-- What the program asks of the one at a place. -/
def SpotOk (ls : List (List Int)) (l : List Int) (i : Nat) (hi : i < l.length) : Prop := ∃ t : Nat, ∃ ht : t < ls.length, l[i] = (t : Int) ∧ l[i] ∉ l.take i ∧ Rise ls[t] ∧ ∀ x ∈ ls[t], x ∈ l.take i
theorem spot_range {ls : List (List Int)} {l : List Int} {k : Nat} (h : ∀ i (hi : i < l.length), i < k → SpotOk ls l i hi) : ∀ x ∈ l.take k, 0 ≤ x ∧ x < (ls.length : Int) := by
  intro x hx
  obtain ⟨i, hi, rfl⟩ := List.mem_iff_getElem.1 hx
  rw [List.length_take] at hi
  obtain ⟨t, ht, he, _⟩ := h i (by omega) (by omega)
  rw [List.getElem_take]
  omega
theorem isTask_b {ls : List (List Int)} {l : List Int} {k : Int} {v : Value} {w : World} {b : Bool} (hst : GraphV w v ls l) (h : (decide (0 ≤ k) && decide (k < (ls.length : Int))) = b) :
    Calls Try.prog 63 #[v, .int .i64 k] w fun e w' => e = .returned (.bool b) ∧ Below w.heap.size w w' := by
  subst h
  exact isTask_any ls l k v w hst
theorem take_snoc {l : List Int} {k : Nat} (hk : k < l.length) : l.take k ++ [l[k]] = l.take (k + 1) := (List.take_succ_eq_append_getElem hk).symm

set_option maxRecDepth 20000 in
set_option maxHeartbeats 4000000 in
theorem implGood_any (ls : List (List Int)) (l : List Int) (v : Value) (w : World) (hst : GraphV w v ls l) :
    Calls Try.prog 53 #[v] w fun e w' => e = .returned (.bool (goodG ls l)) ∧ Below w.heap.size w w' := by
  have HV := Lib.hid hst
  obtain ⟨nv, ov, rfl, h1, h2⟩ := hst
  obtain ⟨an, cn, rfl, hn1, hn2, hat⟩ := h1.lists
  obtain ⟨ao, co, rfl, ho1, ho2, hao⟩ := h2.ints
  clear h1 h2
  unfold maxLen at hn2 ho2
  have nog : ∀ {P : Prop}, (GoodP ls l → P) → ¬ P → Hid (goodG ls l = false) := fun h1 h2 => goodG_noP (fun h => h2 (h1 h))
  obtain ⟨wa, hwa⟩ : ∃ wa, wa = w.alloc (.cells #[.slice an ls.length cn, .slice ao l.length co] 35) := ⟨_, rfl⟩
  have c0 : wa.cell? ⟨w.heap.size, 0, none⟩ = some (.slice an ls.length cn) := by rw [hwa]; simp
  have c1 : wa.cell? ⟨w.heap.size, 1, none⟩ = some (.slice ao l.length co) := by rw [hwa]; simp
  have HA : Hid (Below w.heap.size w wa) := by rw [hwa]; exact (Below.refl w.heap.size w).alloc (Nat.le_refl _) _
  have hsz : w.heap.size < wa.heap.size := by rw [hwa]; simp
  have HWA := Lib.hid hwa
  by_cases h1 : 1 ≤ ls.length ∧ ls.length ≤ 10
  · by_cases h2 : l.length = ls.length
    · have e2 : ((l.length : Int) != (ls.length : Int)) = false := by simp [h2]
      have HL := Lib.hid h2
      obtain ⟨h1a, h1b⟩ := h1
      obtain ⟨w0, hmk, hown0, hb0⟩ := make_row elemB rfl ls.length wa (by omega)
      have HN0 := Lib.hid hown0
      have HB0 := Lib.hid hb0
      rw [hwa] at hmk
      have hwz : wa.heap.size = w.heap.size + 1 := by rw [hwa]; simp
      rw [hwz] at HN0
      have d0 := (HB0.out.cell (p := ⟨w.heap.size, 0, none⟩) hsz).trans c0
      have d1 := (HB0.out.cell (p := ⟨w.heap.size, 1, none⟩) hsz).trans c1
      clear hown0 hb0 h2 hwa
      go_enter Try.func53, Try.ntmps53
      go_wp2_with fail
      clear hmk e2 d0 d1
      go_loopw [28] (fun i wr => ∃ k : Nat, k ≤ l.length ∧ i = .int .i64 k ∧ Hid (∀ i (hi : i < l.length), i < k → SpotOk ls l i hi) ∧ wr.ownsRow (w.heap.size + 1) 4 1 (.slice (some ⟨w.heap.size + 1, 0, none⟩) ls.length ls.length) ls.length (Bo (marksIn ls.length (l.take k))) ∧ Below wa.heap.size wa wr) (fun i _ => l.length - (intOf i).toNat)
      case atStart => exact ⟨0, Nat.zero_le _, rfl, fun i hi h => by omega, by rw [List.take_zero, marksIn_nil, Bo_rep]; exact HN0.out, HB0.out⟩
      case round =>
        clear HN0 HB0
        obtain ⟨k, hk, rfl, HO, hown, hb⟩ := hrel
        have HN := Lib.hid hown
        have HB := Lib.hid hb
        have HBW := Lib.hid (bth HA.out hb (Nat.le_refl _))
        have d0 := (hb.cell (p := ⟨w.heap.size, 0, none⟩) hsz).trans c0
        have d1 := (hb.cell (p := ⟨w.heap.size, 1, none⟩) hsz).trans c1
        have HC0 := Lib.hid c0
        have HC1 := Lib.hid c1
        have hszr := hb.size
        clear hb c0 c1 hown
        by_cases hlt : k < l.length
        · obtain ⟨g, o, rfl, hg, hcell0⟩ := hao k hlt
          have hcell : wr.cell? ⟨g, o + k, none⟩ = some (.int .i64 l[k]) := by rw [HBW.out.cell (p := ⟨g, o + k, none⟩) hg]; exact hcell0
          clear hcell0
          by_cases hr : 0 ≤ l[k] ∧ l[k] < (ls.length : Int)
          · have CT := Lib.hid (isTask_b (HV.out.below HBW.out) (show (decide (0 ≤ l[k]) && decide (l[k] < (ls.length : Int))) = true by simp [hr]))
            obtain ⟨t, ht⟩ : ∃ t : Nat, l[k] = t := ⟨l[k].toNat, by omega⟩
            have htn : t < ls.length := by omega
            have HTL := Lib.hid ht
            have HPRE := Lib.hid (spot_range HO.out)
            have HTS := Lib.hid (take_snoc hlt)
            have HSO : Hid (∀ (h1 : (t : Int) ∉ l.take k) (h2 : Rise ls[t]) (h3 : ∀ x ∈ ls[t], x ∈ l.take k), ∀ i (hi : i < l.length), i < k + 1 → SpotOk ls l i hi) := by
              intro h1 h2 h3 i hi hik
              rcases Nat.lt_or_ge i k with h | h
              · exact HO.out i hi h
              · obtain rfl : i = k := by omega
                exact ⟨t, htn, ht, by rw [ht]; exact h1, h2, h3⟩
            have hnog1 : (t : Int) ∈ l.take k → Hid (goodG ls l = false) := fun hm => nog (fun h => (h.each k hlt)) (fun ⟨t', ht', he, hn, _⟩ => hn (by rw [ht]; exact hm))
            have hnog2 : ¬ (Rise ls[t] ∧ ∀ x ∈ ls[t], x ∈ l.take k) → Hid (goodG ls l = false) := fun hm => nog (fun h => (h.each k hlt)) (fun ⟨t', ht', he, hn, h3, h4⟩ => hm (by
              obtain rfl : t = t' := by omega
              exact ⟨h3, h4⟩))
            rw [ht] at hcell CT HTS
            clear ht nog hao HTL
            go_wp2_with fail
            refine CT.out.mono ?_
            rintro e w1 ⟨rfl, hb1⟩
            have hN1 := own_below HN.out hb1
            have HN1 := Lib.hid hN1
            have HB1 := Lib.hid (bth HB.out hb1 (Nat.le_refl _))
            have HBW1 := Lib.hid (bth HBW.out hb1 (Nat.le_refl _))
            have hcp : w1.cell? ⟨w.heap.size + 1, t, none⟩ = some (.bool (decide ((t : Int) ∈ l.take k))) := by rw [hN1.cellAt t (by omega), Bo_get? (by rw [marksIn_len]; exact htn), marksIn_at]
            have f0 := (hb1.cell (p := ⟨w.heap.size, 0, none⟩) (by show w.heap.size < wr.heap.size; omega)).trans d0
            clear d0 d1 hcell hb1 HN CT HO
            by_cases hm : (t : Int) ∈ l.take k
            · have HR := hnog1 hm
              rw [decide_eq_true hm] at hcp
              clear hnog1 hnog2 hm hat HSO HTS hN1
              go_wp2_with fail
              go_ret
              exact ⟨ret_bool HR.out.symm, HBW1.out⟩
            · obtain ⟨g2, o2, a2, c2, rfl, hg2, hcell2, hrk⟩ := hat t htn
              have hcell3 : w1.cell? ⟨g2, o2 + t, none⟩ = some (.slice a2 ls[t].length c2) := by rw [HBW1.out.cell (p := ⟨g2, o2 + t, none⟩) hg2]; exact hcell2
              have CN := areNeeds_any ls[t] (l.take k) ls.length _ _ w1 (hrk.below HBW1.out) (RowV.of_own hN1) HPRE.out
              rw [decide_eq_false hm] at hcp
              by_cases hq : Rise ls[t] ∧ ∀ x ∈ ls[t], x ∈ l.take k
              · rw [needsB_iff.2 hq] at CN
                have HCN := Lib.hid CN
                have HS1 := Lib.hid (HSO.out hm hq.1 hq.2)
                have hfz := hN1.frozenAt t
                have hst := hN1.stored t (.bool true)
                rw [Bo_set, marksIn_set, HTS.out] at hst
                have HN2 := Lib.hid hst.1
                have HB2 := Lib.hid (HB1.out.trans (only_below hst.2 (by omega) (by have := HB1.out.size; omega)))
                clear hnog1 hnog2 hm hat HSO HTS hN1 CN hcell2 hrk hst hq HN1
                generalize ls[t].length = n2 at *
                go_wp2_with fail
                refine HCN.out.mono ?_
                rintro e w' ⟨rfl, rfl⟩
                go_wp2_with fail
                go_roundw
                case rel => exact ⟨k + 1, by omega, by go_num, HS1, HN2.out, HB2.out⟩
                case measure => simp [intOf]; omega
              · rw [needsB_no hq] at CN
                have HCN := Lib.hid CN
                have HR := hnog2 hq
                clear hnog1 hnog2 hm hat HSO HTS hN1 CN hcell2 hrk hq HN1
                generalize ls[t].length = n2 at *
                go_wp2_with fail
                refine HCN.out.mono ?_
                rintro e w' ⟨rfl, rfl⟩
                go_wp2_with fail
                go_ret
                exact ⟨ret_bool HR.out.symm, HBW1.out⟩
          · have CT := Lib.hid (isTask_b (HV.out.below HBW.out) (show (decide (0 ≤ l[k]) && decide (l[k] < (ls.length : Int))) = false by rw [Bool.eq_false_iff]; intro h; rw [Bool.and_eq_true, decide_eq_true_iff, decide_eq_true_iff] at h; exact hr h))
            have HR := nog (fun h => h.each k hlt) (fun ⟨t, ht, he, _⟩ => hr (by omega))
            clear nog hao hat HO hr HN
            generalize l[k] = x at *
            go_wp2_with fail
            refine CT.out.mono ?_
            rintro e w1 ⟨rfl, hb1⟩
            have HB1 := Lib.hid (bth HBW.out hb1 (Nat.le_refl _))
            clear hb1
            go_wp2_with fail
            go_ret
            exact ⟨ret_bool HR.out.symm, HB1.out⟩
        · have HR : Hid (goodG ls l = true) := goodG_iff.2 (GoodP.toG ⟨h1a, h1b, HL.out, fun i hi => HO.out i hi (by omega)⟩)
          clear HO hat hao nog HN
          go_wp2_with fail
          go_ret
          exact ⟨ret_bool HR.out.symm, HBW.out⟩
    · have e2 : ((l.length : Int) != (ls.length : Int)) = true := by simp; omega
      have HR := nog (fun h => h.same) h2
      obtain ⟨h1a, h1b⟩ := h1
      clear h2 nog hat hao c0 c1 hwa hsz
      go_enter Try.func53, Try.ntmps53
      go_wp2_with fail
      rw [← HWA.out]
      go_ret
      exact ⟨ret_bool HR.out.symm, HA.out⟩
  · have HR := nog (fun h => And.intro h.low h.high) h1
    clear nog hat hao c0 c1 hwa hsz
    by_cases h3 : ls.length < 1
    · go_enter Try.func53, Try.ntmps53
      go_wp2_with fail
      rw [← HWA.out]
      go_ret
      exact ⟨ret_bool HR.out.symm, HA.out⟩
    · have h4 : 10 < ls.length := by omega
      clear h1
      go_enter Try.func53, Try.ntmps53
      go_wp2_with fail
      rw [← HWA.out]
      go_ret
      exact ⟨ret_bool HR.out.symm, HA.out⟩
end Go.Proofs.Ytcfhfhpdnjaokaa

/- Walks: whether a plan is good, of the reference and of the program. -/
namespace Go.Proofs.Ytcfhfhpdnjaokaa
open Go.RowKit Pth

/-- One task of a plan is as it should be. -/
def planP (ls : List (List Int)) (bs : List Bool) (rs : List (List OpT)) (k : Nat) : Bool :=
  goodR (rs.getD k []) ((ls.getD k []).length : Int) && !(bs.getD k false && decide (0 < (rs.getD k []).length + (ls.getD k []).length))
noncomputable def planA (ls : List (List Int)) (l : List Int) (bs : List Bool) (rs : List (List OpT)) : Bool :=
  goodG ls l && (decide (bs.length = ls.length) && (decide (rs.length = ls.length) && (List.range ls.length).all (planP ls bs rs)))
theorem getD_at {α : Type} {l : List α} {k : Nat} (d : α) (h : k < l.length) : l.getD k d = l[k] := by
  rw [List.getD_eq_getElem?_getD, List.getElem?_eq_getElem h]; rfl
theorem planP_at {ls : List (List Int)} {bs : List Bool} {rs : List (List OpT)} {k : Nat} (h1 : k < ls.length) (h2 : k < bs.length) (h3 : k < rs.length) :
    planP ls bs rs k = (goodR rs[k] (ls[k].length : Int) && !(bs[k] && decide (0 < rs[k].length + ls[k].length))) := by
  unfold planP; rw [getD_at _ h1, getD_at _ h2, getD_at _ h3]
theorem plan_noG {ls : List (List Int)} {l : List Int} {bs : List Bool} {rs : List (List OpT)} (h : goodG ls l = false) : planA ls l bs rs = false := by unfold planA; rw [h]; rfl
theorem plan_noB {ls : List (List Int)} {l : List Int} {bs : List Bool} {rs : List (List OpT)} (h : bs.length ≠ ls.length) : planA ls l bs rs = false := by
  unfold planA; rw [decide_eq_false h]; simp
theorem plan_noR {ls : List (List Int)} {l : List Int} {bs : List Bool} {rs : List (List OpT)} (h : rs.length ≠ ls.length) : planA ls l bs rs = false := by
  unfold planA; rw [decide_eq_false h]; simp
theorem plan_bad {ls : List (List Int)} {l : List Int} {bs : List Bool} {rs : List (List OpT)} {k : Nat} (hk : k < ls.length) (h : planP ls bs rs k = false) : planA ls l bs rs = false := by
  have : (List.range ls.length).all (planP ls bs rs) = false := List.all_eq_false.2 ⟨k, by simpa using hk, by simp [h]⟩
  unfold planA; rw [this]; simp
theorem plan_end {ls : List (List Int)} {l : List Int} {bs : List Bool} {rs : List (List OpT)} {k : Nat} (hk : ls.length ≤ k) (hg : goodG ls l = true) (h1 : bs.length = ls.length) (h2 : rs.length = ls.length) (h : ∀ j, j < k → planP ls bs rs j = true) : planA ls l bs rs = true := by
  have : (List.range ls.length).all (planP ls bs rs) = true := List.all_eq_true.2 (fun j hj => h j (by simp at hj; omega))
  unfold planA; rw [hg, decide_eq_true h1, decide_eq_true h2, this]; rfl
theorem plan_next {ls : List (List Int)} {bs : List Bool} {rs : List (List OpT)} {k : Nat} (h : ∀ j, j < k → planP ls bs rs j = true) (hp : planP ls bs rs k = true) : ∀ j, j < k + 1 → planP ls bs rs j = true := by
  intro j hj
  by_cases e : j = k
  · rw [e]; exact hp
  · exact h j (by omega)
theorem plan_parts {ls : List (List Int)} {l : List Int} {bs : List Bool} {rs : List (List OpT)} (h : planA ls l bs rs = true) : GoodG ls l ∧ bs.length = ls.length ∧ rs.length = ls.length ∧ ∀ k, k < ls.length → planP ls bs rs k = true := by
  unfold planA at h
  simp only [Bool.and_eq_true, decide_eq_true_eq, List.all_eq_true, List.mem_range] at h
  exact ⟨goodG_iff.1 h.1, h.2.1, h.2.2.1, h.2.2.2⟩

theorem implGood_bR {r : List OpT} {ins : Int} {b : Bool} (h : goodR r ins = b) (v : Value) (w : World) (hrow : RowO w v r) : Calls Try.prog 54 #[v, .int .i64 ins] w (BoolPost b w) := by
  have := implGoodR_any r ins v w hrow; rwa [h] at this

set_option maxRecDepth 20000 in
set_option maxHeartbeats 8000000 in
theorem specPlan_any (ls : List (List Int)) (l : List Int) (bs : List Bool) (rs : List (List OpT)) (v : Value) (w : World) (hp : PlanV w v ls l bs rs) (hx : ∀ l ∈ rs, ∀ f ∈ l, f.2.2.length ≤ maxLen) :
    Calls Try.prog 37 #[v] w (BoolPost (planA ls l bs rs) w) := by
  obtain ⟨nv, ov, sv, rv, rfl, h1, h2, h3, h4⟩ := hp
  have H1 := Lib.hid h1
  have H2 := Lib.hid h2
  obtain ⟨as0, cs, rfl, hs1, hs2, hats⟩ := h3.boolsW
  obtain ⟨an, cn, rfl, hn1, hn2, hatn⟩ := h1.lists
  obtain ⟨ao, co, rfl, ho1, ho2, _⟩ := h2.ints
  obtain ⟨ar, cr, rfl, hr1, hr2, hatr⟩ := h4.lists
  clear h1 h2 h3 h4
  unfold maxLen at hs2 hn2 ho2 hr2
  obtain ⟨wa, hwa⟩ : ∃ wa, wa = w.alloc (.cells #[.slice an ls.length cn, .slice ao l.length co, .slice as0 bs.length cs, .slice ar rs.length cr] 38) := ⟨_, rfl⟩
  have hsz : w.heap.size < wa.heap.size := by rw [hwa]; simp
  have P0 : Hid (Blk4 wa w.heap.size 38 (.slice an ls.length cn) (.slice ao l.length co) (.slice as0 bs.length cs) (.slice ar rs.length cr)) := by rw [hwa]; exact Blk4.new
  have HA : Hid (Below w.heap.size w wa) := by rw [hwa]; exact (Below.refl w.heap.size w).alloc (Nat.le_refl _) _
  have HC := Lib.hid (specGood_any ls l (.agg #[.slice an ls.length cn, .slice ao l.length co]) wa ⟨_, _, rfl, H1.out.below HA.out, H2.out.below HA.out⟩)
  have HWA := Lib.hid hwa
  have HATS := Lib.hid hats
  have HATN := Lib.hid hatn
  have HATR := Lib.hid hatr
  have HX := Lib.hid hx
  obtain ⟨c0, c1, c2, c3⟩ := P0.out.cells
  clear hwa hats hatn hatr hx
  rcases hg : goodG ls l with _ | _
  · have HT : Hid (planA ls l bs rs = false) := plan_noG hg
    rw [hg] at HC
    clear hg
    go_enter Try.func37, Try.ntmps37
    go_wp2_with fail
    rw [← HWA.out]
    refine HC.out.mono ?_
    rintro e w1 ⟨rfl, hb1⟩
    have HB1 := Lib.hid (bth HA.out hb1 (Nat.le_refl _))
    clear hb1 c0 c1 c2 c3
    go_wp2_with fail
    go_ret
    exact ⟨ret_bool HT.out.symm, HB1.out⟩
  rw [hg] at HC
  by_cases hb : bs.length = ls.length
  · have eb : ((bs.length : Int) != (ls.length : Int)) = false := by simp [hb]
    by_cases hr : rs.length = ls.length
    · have er : ((rs.length : Int) != (ls.length : Int)) = false := by simp [hr]
      have HGG := Lib.hid hg
      have HBL := Lib.hid hb
      have HRL := Lib.hid hr
      have hgg := goodG_iff.1 hg
      have HLL : Hid (∀ k (hk : k < ls.length), ls[k].length ≤ 10) := fun k hk => by
        have hw := (hgg.each k hk).1
        have := rise_len hw.1 hw.2 (by have := hgg.low; omega)
        have := hgg.high
        omega
      have hhigh := hgg.high
      clear hg hgg hb hr
      go_enter Try.func37, Try.ntmps37
      go_wp2_with fail
      rw [← HWA.out]
      refine HC.out.mono ?_
      rintro e w1 ⟨rfl, hb1⟩
      have HB1 := Lib.hid hb1
      clear hb1 c0 c1 c2 c3 HC
      obtain ⟨c0, c1, c2, c3⟩ := (P0.out.below HB1.out hsz).cells
      go_wp2_with fail
      clear c0 c1 c2 c3
      go_loopw [31] (fun i wr => ∃ k : Nat, k ≤ ls.length ∧ i = .int .i64 k ∧ Hid (Below wa.heap.size wa wr) ∧ Hid (∀ j, j < k → planP ls bs rs j = true)) (fun i _ => ls.length - (intOf i).toNat)
      case atStart => exact ⟨0, Nat.zero_le _, rfl, HB1.out, fun j hj => by omega⟩
      case round =>
        clear HB1
        obtain ⟨k, hk, rfl, HB, HO⟩ := hrel
        have HBW := Lib.hid (bth HA.out HB.out (Nat.le_refl _))
        by_cases hlt : k < ls.length
        · have hkb : k < bs.length := by have := HBL.out; omega
          have hkr : k < rs.length := by have := HRL.out; omega
          obtain ⟨gn, on, an2, cn2, rfl, hgn, hcn, hrn⟩ := HATN.out k hlt
          obtain ⟨gb, ob, rfl, hgb, hcb⟩ := HATS.out k hkb
          obtain ⟨gr, or', ar2, cr2, rfl, hgr, hcr, hrr⟩ := HATR.out k hkr
          obtain ⟨_, _, hev, hcl, hcm, _⟩ := hrr.ops
          injection hev with hea _ hec
          subst hea hec
          obtain ⟨nr, hnr⟩ : ∃ n, rs[k].length = n := ⟨_, rfl⟩
          obtain ⟨nl, hnl⟩ : ∃ n, ls[k].length = n := ⟨_, rfl⟩
          obtain ⟨s, hs⟩ : ∃ s, bs[k] = s := ⟨_, rfl⟩
          have hrl : nr ≤ maxLen := by omega
          unfold maxLen at hrl
          have hl10 : nl ≤ 10 := by have := HLL.out k hlt; omega
          rw [hnl] at hcn
          rw [hnr] at hcr hrr
          rw [hs] at hcb
          have HNC : Hid (∀ W, Below w.heap.size w W → W.cell? ⟨gn, on + k, none⟩ = some (.slice an2 nl cn2)) := fun W h => (h.cell (p := ⟨gn, on + k, none⟩) hgn).trans hcn
          have HBC : Hid (∀ W, Below w.heap.size w W → W.cell? ⟨gb, ob + k, none⟩ = some (.bool s)) := fun W h => (h.cell (p := ⟨gb, ob + k, none⟩) hgb).trans hcb
          have HRC : Hid (∀ W, Below w.heap.size w W → W.cell? ⟨gr, or' + k, none⟩ = some (.slice ar2 nr cr2)) := fun W h => (h.cell (p := ⟨gr, or' + k, none⟩) hgr).trans hcr
          obtain ⟨b1, hb1⟩ : ∃ b, goodR rs[k] (nl : Int) = b := ⟨_, rfl⟩
          have HCR : Hid (∀ W, Below w.heap.size w W → Calls Try.prog 51 #[.slice ar2 nr cr2, .int .i64 (nl : Int)] W (BoolPost b1 W)) := fun W h => specGood_b hb1 _ W (hrr.below h) (fun f hf => HX.out _ (List.getElem_mem hkr) f hf)
          have H8 : Hid (b1 = true → nr ≤ 8) := fun h => by rw [h] at hb1; have := (goodR_iff.1 hb1).2.2.1; omega
          have hPP : planP ls bs rs k = (b1 && !(s && decide (0 < nr + nl))) := by rw [planP_at hlt hkb hkr, hnl, hb1, hnr, hs]
          have hs1 := HNC.out wr HBW.out
          have hs2 := HBC.out wr HBW.out
          have hs3 := HRC.out wr HBW.out
          have hki : (k : Int) < (bs.length : Int) := by omega
          have hkj : (k : Int) < (rs.length : Int) := by omega
          obtain ⟨c0, c1, c2, c3⟩ := (P0.out.below HB.out hsz).cells
          clear hcn hcb hcr hrn hrr hb1 HATN HATS HATR HX H1 H2 hnr hnl hs hcl hcm
          by_cases hz : 0 < nr + nl
          · rw [decide_eq_true hz] at hPP
            have HS : Hid (if b1 && !s then (∀ j, j < k + 1 → planP ls bs rs j = true) else planA ls l bs rs = false) := by
              unfold Hid
              split
              · rename_i h; exact plan_next HO.out (by rw [hPP, Bool.and_true]; exact h)
              · rename_i h; exact plan_bad hlt (by rw [hPP, Bool.and_true]; simpa using h)
            clear hPP HO
            rcases b1 with _ | _
            · go_wp2_with fail
              refine (HCR.out wr HBW.out).mono ?_
              rintro e w2 ⟨rfl, hb2⟩
              have HB2 := Lib.hid (bth HB.out hb2 (Nat.le_refl _))
              have HBW2 := Lib.hid (bth HA.out HB2.out (Nat.le_refl _))
              clear hb2 c0 c1 c2 c3 hs1 hs2 hs3
              obtain ⟨c0, c1, c2, c3⟩ := (P0.out.below HB2.out hsz).cells
              have hs1 := HNC.out w2 HBW2.out
              have hs2 := HBC.out w2 HBW2.out
              have hs3 := HRC.out w2 HBW2.out
              go_wp2_with fail
              go_ret
              exact ⟨ret_bool (by have := HS.out; simp at this; simp [this]), HBW2.out⟩
            · go_wp2_with fail
              refine (HCR.out wr HBW.out).mono ?_
              rintro e w2 ⟨rfl, hb2⟩
              have HB2 := Lib.hid (bth HB.out hb2 (Nat.le_refl _))
              have HBW2 := Lib.hid (bth HA.out HB2.out (Nat.le_refl _))
              clear hb2 c0 c1 c2 c3 hs1 hs2 hs3
              obtain ⟨c0, c1, c2, c3⟩ := (P0.out.below HB2.out hsz).cells
              have hs1 := HNC.out w2 HBW2.out
              have hs2 := HBC.out w2 HBW2.out
              have hs3 := HRC.out w2 HBW2.out
              rcases s with _ | _
              · go_wp2_with fail
                all_goals
                  go_roundw
                  case rel => exact ⟨k + 1, by omega, by go_num, HB2, by have := HS.out; simpa [Hid] using this⟩
                  case measure => simp [intOf]; omega
              · have hd : (0 : Int) < (nr : Int) + (nl : Int) := by omega
                have h8 : nr ≤ 8 := by simpa using H8.out
                have hwr : IntKind.i64.wrap ((nr : Int) + (nl : Int)) = (nr : Int) + (nl : Int) := by rw [IntKind.wrap_i64]; omega
                go_wp2_with fail
                go_ret
                exact ⟨ret_bool (by have := HS.out; simp at this; simp [this]), HBW2.out⟩
          · rw [decide_eq_false hz] at hPP
            have HS : Hid (if b1 then (∀ j, j < k + 1 → planP ls bs rs j = true) else planA ls l bs rs = false) := by
              unfold Hid
              split
              · rename_i h; exact plan_next HO.out (by rw [hPP, Bool.and_false, h]; rfl)
              · rename_i h; exact plan_bad hlt (by rw [hPP, Bool.and_false]; simpa using h)
            clear hPP HO
            obtain rfl : nr = 0 := by omega
            obtain rfl : nl = 0 := by omega
            clear hz
            rcases b1 with _ | _
            · go_wp2_with fail
              refine (HCR.out wr HBW.out).mono ?_
              rintro e w2 ⟨rfl, hb2⟩
              have HB2 := Lib.hid (bth HB.out hb2 (Nat.le_refl _))
              have HBW2 := Lib.hid (bth HA.out HB2.out (Nat.le_refl _))
              clear hb2 c0 c1 c2 c3 hs1 hs2 hs3
              obtain ⟨c0, c1, c2, c3⟩ := (P0.out.below HB2.out hsz).cells
              have hs1 := HNC.out w2 HBW2.out
              have hs2 := HBC.out w2 HBW2.out
              have hs3 := HRC.out w2 HBW2.out
              go_wp2_with fail
              go_ret
              exact ⟨ret_bool (by have := HS.out; simp at this; simp [this]), HBW2.out⟩
            · go_wp2_with fail
              refine (HCR.out wr HBW.out).mono ?_
              rintro e w2 ⟨rfl, hb2⟩
              have HB2 := Lib.hid (bth HB.out hb2 (Nat.le_refl _))
              have HBW2 := Lib.hid (bth HA.out HB2.out (Nat.le_refl _))
              clear hb2 c0 c1 c2 c3 hs1 hs2 hs3
              obtain ⟨c0, c1, c2, c3⟩ := (P0.out.below HB2.out hsz).cells
              have hs1 := HNC.out w2 HBW2.out
              have hs2 := HBC.out w2 HBW2.out
              have hs3 := HRC.out w2 HBW2.out
              rcases s with _ | _
              · go_wp2_with fail
                all_goals
                  go_roundw
                  case rel => exact ⟨k + 1, by omega, by go_num, HB2, by have := HS.out; simpa [Hid] using this⟩
                  case measure => simp [intOf]; omega
              · go_wp2_with fail
                all_goals
                  go_roundw
                  case rel => exact ⟨k + 1, by omega, by go_num, HB2, by have := HS.out; simpa [Hid] using this⟩
                  case measure => simp [intOf]; omega
        · have HT : Hid (planA ls l bs rs = true) := plan_end (by omega) HGG.out HBL.out HRL.out HO.out
          have hnk : ¬ (k : Int) < (rs.length : Int) := by have := HRL.out; omega
          clear HO HATN HATS HATR
          go_wp2_with fail
          go_ret
          exact ⟨ret_bool HT.out.symm, HBW.out⟩
    · have er : ((rs.length : Int) != (ls.length : Int)) = true := by simp; omega
      have HT : Hid (planA ls l bs rs = false) := plan_noR hr
      clear hg hb hr
      go_enter Try.func37, Try.ntmps37
      go_wp2_with fail
      rw [← HWA.out]
      refine HC.out.mono ?_
      rintro e w1 ⟨rfl, hb1⟩
      have HB1 := Lib.hid (bth HA.out hb1 (Nat.le_refl _))
      obtain ⟨d0, d1, d2, d3⟩ := (P0.out.below hb1 hsz).cells
      clear hb1 c0 c1 c2 c3
      go_wp2_with fail
      go_ret
      exact ⟨ret_bool HT.out.symm, HB1.out⟩
  · have eb : ((bs.length : Int) != (ls.length : Int)) = true := by simp; omega
    have HT : Hid (planA ls l bs rs = false) := plan_noB hb
    clear hg hb
    go_enter Try.func37, Try.ntmps37
    go_wp2_with fail
    rw [← HWA.out]
    refine HC.out.mono ?_
    rintro e w1 ⟨rfl, hb1⟩
    have HB1 := Lib.hid (bth HA.out hb1 (Nat.le_refl _))
    obtain ⟨d0, d1, d2, d3⟩ := (P0.out.below hb1 hsz).cells
    clear hb1 c0 c1 c2 c3
    go_wp2_with fail
    go_ret
    exact ⟨ret_bool HT.out.symm, HB1.out⟩
theorem specPlan_b {ls : List (List Int)} {l : List Int} {bs : List Bool} {rs : List (List OpT)} {b : Bool} (h : planA ls l bs rs = b) (v : Value) (w : World) (hp : PlanV w v ls l bs rs) (hx : ∀ l ∈ rs, ∀ f ∈ l, f.2.2.length ≤ maxLen) : Calls Try.prog 37 #[v] w (BoolPost b w) := by
  have := specPlan_any ls l bs rs v w hp hx; rwa [h] at this

end Go.Proofs.Ytcfhfhpdnjaokaa
