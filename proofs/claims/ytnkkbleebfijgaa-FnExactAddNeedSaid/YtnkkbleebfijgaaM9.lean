/- Texts of one claim, joined in their order. -/
import Derived.Test.YtnkkbleebfijgaaM8
import Derived.Test.YtnkkbleebfijgaaM7
import Derived.Test.YtnkkbleebfijgaaM5

/- Walks: the law that graphs with a need more are told alike, and that the answers own their memory, given contracts of both programs. -/
namespace Go.Proofs.Ytnkkbleebfijgaa
open Go.RowKit Pth

set_option maxRecDepth 20000 in
set_option maxHeartbeats 16000000 in
theorem exactAddNeed_of (ls : List (List Int)) (l : List Int) (tk : Int) (nd : Int) (ts : List (List Int)) (t m : List Int) (ok : Bool) (v : Value) (w : World) (hst : GraphV w v ls l) (ht : ts.length + total ts + t.length ≤ 1000) (hm : m.length ≤ 1000)
    (hsp : ∀ W u, GraphV W u ls l → Calls Try.prog 10 #[u, .int .i64 tk, .int .i64 nd] W (AddPost ts t m ok W))
    (him : ∀ W u, GraphV W u ls l → Calls Try.prog 12 #[u, .int .i64 tk, .int .i64 nd] W (AddPost ts t m ok W)) :
    Calls Try.prog 3 #[v, .int .i64 tk, .int .i64 nd] w (YesZ w) := by
  have HST := Lib.hid hst
  have HSP := Lib.hid hsp
  have HIM := Lib.hid him
  clear hsp him
  have hne : (ok != ok) = false := by cases ok <;> rfl
  have HEQ := Lib.hid (fun W u u' (h : GraphV W u ts t) (h' : GraphV W u' ts t) => eqGraph_any ts ts t t u u' W h h' (by omega))
  rw [sameG_self] at HEQ
  have hk2 : decide (((1 + totalG ts t : Nat) : Int) < 0) = false := decide_eq_false (by omega)
  have hTG : 1 + totalG ts t ≤ 1001 := by unfold totalG; omega
  have hk3 : (((1 + totalG ts t + m.length : Nat) : Int) != ((1 + totalG ts t + m.length : Nat) : Int)) = false := by simp
  have hk4 : decide (((1 + totalG ts t + m.length : Nat) : Int) < 0) = false := decide_eq_false (by omega)
  have HMT := Lib.hid (fun B u u' (W0 W : World) (h : GraphM B W0 u u' ts t m) (hb : Below W0.heap.size W0 W) (hB : B ≤ W0.heap.size) => markGraphM_any ts t m 1 B u u' W0 W h hb hB (by omega) (by omega))
  have HHT := Lib.hid (fun u W (h : GraphV W u (marksL 1 ts) (marks ((1 + total ts : Nat) : Int) t.length)) => heldGraph_any ts t 1 u W h (by omega) (by omega))
  have HES := Lib.hid (fun W x y (h1 : RowV W x (I m)) (h2 : RowV W y (I m)) => eqIntS_b h1 h2 (by omega) (decide_eq_true (rfl : m = m)))
  have HMS := Lib.hid (fun B u W (h : World.ownsRow W B 3 1 u m.length (I m)) => markIntS_l (l := m) (k := 1 + totalG ts t) (i := ((1 + totalG ts t : Nat) : Int)) (r := ((1 + totalG ts t + m.length : Nat) : Int)) rfl (by omega) h (by omega) (by omega))
  have HHS := Lib.hid (fun u W (h : RowV W u (I (marks ((1 + totalG ts t : Nat) : Int) m.length))) => heldIntS_l (k := 1 + totalG ts t) (n := m.length) (i := ((1 + totalG ts t : Nat) : Int)) (r := ((1 + totalG ts t + m.length : Nat) : Int)) rfl (by omega) h (by omega) (by omega))
  have hone : ((1 : Nat) : Int) = 1 := rfl
  rw [hone] at HMT HHT
  clear hone
  generalize 1 + totalG ts t = k2 at *
  generalize k2 + m.length = k3 at *
  obtain ⟨nv, ov, rfl, h1, h2⟩ := hst
  obtain ⟨an, cn, rfl, hn1, hn2, _⟩ := h1.lists
  obtain ⟨ao, co, rfl, ho1, ho2, _⟩ := h2.ints
  clear h1 h2
  unfold maxLen at hn2 ho2
  obtain ⟨wa, hwa⟩ : ∃ wa, wa = w.alloc (.cells #[.slice an ls.length cn, .slice ao l.length co] 25) := ⟨_, rfl⟩
  have hsz : wa.heap.size = w.heap.size + 1 := by rw [hwa]; simp
  have P0 : Hid (Blk2 wa w.heap.size 25 (.slice an ls.length cn) (.slice ao l.length co)) := by rw [hwa]; exact Blk2.new
  have HA : Hid (Below w.heap.size w wa) := by rw [hwa]; exact (Below.refl w.heap.size w).alloc (Nat.le_refl _) _
  have hlt0 : w.heap.size < wa.heap.size := by omega
  obtain ⟨c0, c1⟩ := P0.out.cells
  have HWA := Lib.hid hwa
  have HS := Lib.hid (szGraph_any ls l 1048576 _ wa (HST.out.below HA.out) (by omega))
  have HGV : Hid (∀ W, Below wa.heap.size wa W → GraphV W (.agg #[.slice an ls.length cn, .slice ao l.length co]) ls l) := fun W h => HST.out.below (bt HA.out h)
  clear hwa
  go_enter Try.func3, Try.ntmps3
  go_wp2_with fail
  rw [← HWA.out]
  refine HS.out.mono ?_
  rintro e w1 ⟨r, rfl, hr, hb1⟩
  have K1 := Lib.hid hb1
  clear hb1 HS c0 c1
  obtain ⟨c0, c1⟩ := (P0.out.below K1.out hlt0).cells
  by_cases h0 : r < 0
  · clear hr
    go_wp2_with fail
    go_ret
    exact ⟨rfl, bt HA.out K1.out⟩
  have hl : ls.length + total ls + l.length ≤ 1100000 := by have := hr (by omega); omega
  have hl2 : ls.length + total ls + l.length ≤ 2000000 := by omega
  clear hr
  have HTO := Lib.hid (fun W (hb : GraphV W _ ls l) => toGraph_any ls l (.agg #[.slice an ls.length cn, .slice ao l.length co]) W hb hl2)
  have hk1 : decide (((1 + totalG ls l : Nat) : Int) < 0) = false := decide_eq_false (by omega)
  have HMG := Lib.hid (fun B u (W0 W : World) (h : GraphO B W0 u ls l) (hb : Below W0.heap.size W0 W) (hB : B ≤ W0.heap.size) => markGraph_any ls l 1 B u W0 W h hb hB (by omega) (by omega))
  have hone : ((1 : Nat) : Int) = 1 := rfl
  rw [hone] at HMG
  clear hone
  generalize 1 + totalG ls l = k1 at *
  -- the reference's answer
  go_wp2_with fail
  refine (HTO.out w1 (HGV.out w1 K1.out)).mono ?_
  rintro e w2 ⟨v2, rfl, ho2', hb2⟩
  have K2 := Lib.hid (bt K1.out hb2)
  have HC2 := Lib.hid (HSP.out w2 v2 ho2'.view)
  clear hb2 ho2' c0 c1
  go_wp2_with fail
  refine HC2.out.mono ?_
  rintro e w3 ⟨v3, u3, rfl, hgm3, hb3⟩
  have ho3 := hgm3.graph
  have HU3 := Lib.hid (RowV.of_own hgm3.list)
  obtain ⟨ea, ec, rfl⟩ := own_slice hgm3.list
  clear hgm3
  have K3 := Lib.hid (bt K2.out hb3)
  have HV3 := Lib.hid ho3.view
  obtain ⟨a1, e1, a2, e2, rfl⟩ := ho3.slices
  have sa3 := K3.out.size
  obtain ⟨w3b, hw3b⟩ : ∃ w3b, w3b = w3.alloc (.cells #[.slice a1 ts.length e1, .slice a2 t.length e2] 27) := ⟨_, rfl⟩
  have hAw3b : Below w3.heap.size w3 w3b := by rw [hw3b]; exact (Below.refl w3.heap.size w3).alloc (Nat.le_refl _) _
  have W3b : Hid (Blk2 w3b w3.heap.size 27 (.slice a1 ts.length e1) (.slice a2 t.length e2)) := by rw [hw3b]; exact Blk2.new
  have sw3b : w3b.heap.size = w3.heap.size + 1 := by rw [hw3b]; simp
  have Hw3b := Lib.hid hw3b
  have A3b := Lib.hid hAw3b
  have K3b := Lib.hid (bt K3.out hAw3b)
  obtain ⟨c0, c1⟩ := (P0.out.below K3.out hlt0).cells
  have zc : w.heap.size < w3.heap.size := by omega
  clear hb3 HC2 ho3 hAw3b hw3b
  -- a copy of the argument
  go_wp2_with fail
  rw [← Hw3b.out]
  refine (HTO.out w3b (HGV.out w3b K3b.out)).mono ?_
  rintro e w4 ⟨v4, rfl, ho4, hb4⟩
  have s34 := hb4.size
  have HO4 := Lib.hid ho4
  obtain ⟨b1, d1, b2, d2, rfl⟩ := ho4.slices
  obtain ⟨wb, hwb⟩ : ∃ wb, wb = w4.alloc (.cells #[.slice b1 ls.length d1, .slice b2 l.length d2] 27) := ⟨_, rfl⟩
  have X4 : Hid (Blk2 wb w4.heap.size 27 (.slice b1 ls.length d1) (.slice b2 l.length d2)) := by rw [hwb]; exact Blk2.new
  have hAB : Below w4.heap.size w4 wb := by rw [hwb]; exact (Below.refl w4.heap.size w4).alloc (Nat.le_refl _) _
  have hsb : wb.heap.size = w4.heap.size + 1 := by rw [hwb]; simp
  have E4 := Lib.hid hAB
  have A4 := Lib.hid (bt (bt A3b.out hb4) hAB)
  have F4 := Lib.hid (bt hb4 hAB)
  have K4 := Lib.hid (bt (bt K3b.out hb4) hAB)
  have W4 := Lib.hid (W3b.out.below F4.out (by omega))
  have HC5 := Lib.hid (HIM.out wb _ (ho4.below hAB).view)
  have HWB := Lib.hid hwb
  clear hb4 ho4 c0 c1 hwb hAB
  obtain ⟨x0, x1⟩ := X4.out.cells
  go_wp2_with fail
  rw [← HWB.out]
  -- the program's answer
  refine HC5.out.mono ?_
  rintro e w6 ⟨v6, u6, rfl, hgm6, hb6⟩
  have hg6 := hgm6.graph
  have HM6 := Lib.hid hgm6
  have HU6 := Lib.hid (RowV.of_own hgm6.list)
  obtain ⟨ga, gc, rfl⟩ := own_slice hgm6.list
  clear hgm6
  have s6 := hb6.size
  have E6 := Lib.hid (bt E4.out hb6)
  have D6 := Lib.hid hb6
  have A6 := Lib.hid (bt A4.out hb6)
  have K6 := Lib.hid (bt K4.out hb6)
  have W6 := Lib.hid (W4.out.below hb6 (by omega))
  have HG6 := Lib.hid hg6
  obtain ⟨g1, j1, g2, j2, rfl⟩ := hg6.slices
  obtain ⟨w6b, hw6b⟩ : ∃ w6b, w6b = w6.alloc (.cells #[.slice g1 ts.length j1, .slice g2 t.length j2] 27) := ⟨_, rfl⟩
  have hAw6b : Below w6.heap.size w6 w6b := by rw [hw6b]; exact (Below.refl w6.heap.size w6).alloc (Nat.le_refl _) _
  have G6b : Hid (Blk2 w6b w6.heap.size 27 (.slice g1 ts.length j1) (.slice g2 t.length j2)) := by rw [hw6b]; exact Blk2.new
  have sw6b : w6b.heap.size = w6.heap.size + 1 := by rw [hw6b]; simp
  have Hw6b := Lib.hid hw6b
  have E6b := Lib.hid (bt E6.out hAw6b)
  have D6b := Lib.hid (bt D6.out hAw6b)
  have A6b := Lib.hid (bt A6.out hAw6b)
  have K6b := Lib.hid (bt K6.out hAw6b)
  have C6b := Lib.hid hAw6b
  have W6b := Lib.hid (W6.out.below hAw6b (by omega))
  have HV6b := Lib.hid (HG6.out.view.below hAw6b)
  clear hb6 HC5 x0 x1 hg6 hAw6b hw6b
  obtain ⟨y0, y1⟩ := W6.out.cells
  have z6 : w3.heap.size < w6.heap.size := by omega
  go_wp2_with fail
  rw [← Hw6b.out]
  refine (HEQ.out w6b _ _ HV6b.out (HV3.out.below A6b.out)).mono ?_
  rintro e w6c ⟨rfl, hb6c⟩
  have A6c := Lib.hid (bt A6b.out hb6c)
  have C6c := Lib.hid (bt C6b.out hb6c)
  go_wp2_with fail
  refine (HES.out w6c _ _ (HU6.out.below C6c.out) (HU3.out.below A6c.out)).mono ?_
  rintro e w7 ⟨rfl, hb7c⟩
  have hb7 := bt hb6c hb7c
  clear hb6c hb7c
  have s7 := hb7.size
  have E7 := Lib.hid (bt E6b.out hb7)
  have D7 := Lib.hid (bt D6b.out hb7)
  have A7 := Lib.hid (bt A6b.out hb7)
  have K7 := Lib.hid (bt K6b.out hb7)
  have C7 := Lib.hid (bt C6b.out hb7)
  have W7 := Lib.hid (W6b.out.below hb7 (by omega))
  have G7 := Lib.hid (G6b.out.below hb7 (by omega))
  clear hb7 y0 y1
  have hlt7 : w.heap.size < w7.heap.size := by omega
  have hlt8 : w4.heap.size < w7.heap.size := by omega
  have hlt9 : w3.heap.size < w7.heap.size := by omega
  have hltg : w6.heap.size < w7.heap.size := by omega
  have PD : Hid (Blk2 w7.drew w.heap.size 25 (.slice an ls.length cn) (.slice ao l.length co)) := P0.out.below (Below.drew K7.out) hlt0
  have XD : Hid (Blk2 w7.drew w4.heap.size 27 (.slice b1 ls.length d1) (.slice b2 l.length d2)) := X4.out.below (Below.drew D7.out) (by omega)
  have WD : Hid (Blk2 w7.drew w3.heap.size 27 (.slice a1 ts.length e1) (.slice a2 t.length e2)) := W7.out
  have GD : Hid (Blk2 w7.drew w6.heap.size 27 (.slice g1 ts.length j1) (.slice g2 t.length j2)) := G7.out
  have ks := And.intro PD.out.cells XD.out.cells
  have HX7 : Hid (GraphV w7.drew (.agg #[.slice b1 ls.length d1, .slice b2 l.length d2]) ls l) := HO4.out.view.below (Below.drew E7.out)
  have HST7 : Hid (GraphV w7.drew (.agg #[.slice an ls.length cn, .slice ao l.length co]) ls l) := HGV.out w7.drew (Below.drew K7.out)
  have HE := Lib.hid (fun W v5 (hb : GraphV W _ ls l) (hb5 : GraphV W v5 ls l) => eqGraph_any ls ls l l (.agg #[.slice b1 ls.length d1, .slice b2 l.length d2]) v5 W hb hb5 hl2)
  rw [sameG_self] at HE
  go_wp2_with fail
  -- the copy is as it was
  go_region_held3 (fun w' => (w'.cell? ⟨w.heap.size, 0, none⟩ = some (.slice an ls.length cn) ∧ w'.cell? ⟨w.heap.size, 1, none⟩ = some (.slice ao l.length co)) ∧ (w'.cell? ⟨w4.heap.size, 0, none⟩ = some (.slice b1 ls.length d1) ∧ w'.cell? ⟨w4.heap.size, 1, none⟩ = some (.slice b2 l.length d2))) (first | exact ks)
    (first
      | (go_at_call 11; refine (HTO.out _ (by exact HST7.out)).mono ?_; rintro e w7b ⟨v7, rfl, ho7, hb7⟩
         have ks := And.intro (PD.out.below hb7 hlt7).cells (XD.out.below hb7 hlt8).cells
         have HO7 := Lib.hid ho7.view
         have HXB := Lib.hid (GraphV.below (by exact HX7.out) hb7)
         have B7 := Lib.hid hb7
         clear ho7 hb7)
      | (go_at_call 13; refine (HE.out _ _ (by exact HXB.out) (by exact HO7.out)).mono ?_; rintro e w8 ⟨rfl, hb8⟩
         have B8 := Lib.hid (bt B7.out hb8)
         have ks := And.intro (PD.out.below B8.out hlt7).cells (XD.out.below B8.out hlt8).cells
         clear hb8))
  all_goals
    have s8 : w7.heap.size ≤ w8.heap.size := B8.out.size
    have E8 := Lib.hid (bt (Below.drew E7.out) B8.out)
    have A8 := Lib.hid (bt (Below.drew A7.out) B8.out)
    have K8 := Lib.hid (bt (Below.drew K7.out) B8.out)
    have C8 := Lib.hid (bt (Below.drew C7.out) B8.out)
    have W8 := Lib.hid (WD.out.below B8.out hlt9)
    have G8 := Lib.hid (GD.out.below B8.out hltg)
    have x01 := (XD.out.below B8.out hlt8).cells
    obtain ⟨x0, x1⟩ := x01
    clear ks PD XD WD GD HX7 HST7 HO7 HXB B7 B8
    -- marks in the copy
    go_wp2_with fail
    refine (HMG.out w3b.heap.size _ w4 w8 HO4.out E8.out s34).mono ?_
    rintro e w9 ⟨rfl, _, hg9⟩
    have s9 := hg9.below.size
    have A9 := Lib.hid (A8.out.trans (hg9.below.mono (by omega)))
    have K9 := Lib.hid (K8.out.trans (hg9.below.mono (by omega)))
    have W9 := Lib.hid (W8.out.only hg9 (.inl (by omega)))
    have G9 := Lib.hid (G8.out.only hg9 (.inr (by omega)))
    have HG9 := Lib.hid ((HM6.out.below C8.out).only hg9 (by omega))
    clear hg9 x0 x1 A8 K8 E8 W8 G8
    obtain ⟨y0, y1⟩ := W9.out.cells
    obtain ⟨g0', g1'⟩ := G9.out.cells
    go_wp2_with fail
    refine (HEQ.out w9 _ _ HG9.out.graph.view (HV3.out.below A9.out)).mono ?_
    rintro e w9c ⟨rfl, hb9c⟩
    have A9c := Lib.hid (bt A9.out hb9c)
    have HL9c := Lib.hid ((RowV.of_own HG9.out.list).below hb9c)
    go_wp2_with fail
    refine (HES.out w9c _ _ HL9c.out (HU3.out.below A9c.out)).mono ?_
    rintro e w10 ⟨rfl, hb10c⟩
    have hb10 := bt hb9c hb10c
    clear hb9c hb10c
    have s10 := hb10.size
    have A10 := Lib.hid (bt A9.out hb10)
    have K10 := Lib.hid (bt K9.out hb10)
    have W10 := Lib.hid (W9.out.below hb10 (by omega))
    have G10 := Lib.hid (G9.out.below hb10 (by omega))
    have HG10 := Lib.hid (HG9.out.below hb10)
    clear hb10 y0 y1 g0' g1' A9 K9 W9 G9
    obtain ⟨g0', g1'⟩ := G10.out.cells
    -- marks in the answer
    go_wp2_with fail
    have HBX := Lib.hid (Below.refl w10.heap.size w10)
    refine (HMT.out wb.heap.size _ _ w10 w10 HG10.out HBX.out (by omega)).mono ?_
    rintro e w11 ⟨rfl, hk11, hg11⟩
    have s11 := hg11.below.size
    have A11 := Lib.hid (A10.out.trans (hg11.below.mono (by omega)))
    have K11 := Lib.hid (K10.out.trans (hg11.below.mono (by omega)))
    have W11 := Lib.hid (W10.out.only hg11 (.inl (by omega)))
    have G11 := Lib.hid (G10.out.kept hg11 (by decide))
    have HK11 := Lib.hid hk11
    clear hk11 hg11 g0' g1' A10 K10 W10 G10 HG10 HBX
    go_wp2_with fail
    refine (HMS.out wb.heap.size _ w11 HK11.out.list).mono ?_
    rintro e w11b ⟨rfl, hms, hgs⟩
    have HK11b := Lib.hid (HK11.out.turn hgs (by rw [marks_len]; exact hms))
    have hBB : Below wb.heap.size w11 w11b := (Below.refl wb.heap.size w11).grown hgs (by omega) (fun i hi => (HK11.out.list.lt i hi).1)
    have s11b := hBB.size
    have A11b := Lib.hid (A11.out.trans (hBB.mono (by omega)))
    have K11b := Lib.hid (K11.out.trans (hBB.mono (by omega)))
    have W11b := Lib.hid (W11.out.below hBB (by omega))
    have G11b := Lib.hid (G11.out.beside hgs (fun e => blk_ne (g := 0) G11.out HK11.out.list (by decide) w6.heap.size e rfl))
    clear hms hgs hBB
    obtain ⟨g0', g1'⟩ := G11b.out.cells
    go_wp2_with fail
    refine (HHT.out _ w11b HK11b.out.graph.view).mono ?_
    rintro e w11c ⟨rfl, hb11c⟩
    have HL11c := Lib.hid ((RowV.of_own HK11b.out.list).below hb11c)
    go_wp2_with fail
    refine (HHS.out _ w11c HL11c.out).mono ?_
    rintro e w12 ⟨rfl, hb12c⟩
    have hb12 := bt hb11c hb12c
    clear hb11c hb12c
    have s12 := hb12.size
    have A12 := Lib.hid (bt A11b.out hb12)
    have K12 := Lib.hid (bt K11b.out hb12)
    have W12 := Lib.hid (W11b.out.below hb12 (by omega))
    have G12 := Lib.hid (G11b.out.below hb12 (by omega))
    have HK12 := Lib.hid (HK11b.out.below hb12)
    clear hb12 g0' g1' HK11 A11 K11 W11 G11
    obtain ⟨c0, c1⟩ := (P0.out.below K12.out hlt0).cells
    -- asked again
    go_wp2_with fail
    refine (HTO.out w12 (HGV.out w12 K12.out)).mono ?_
    rintro e w13 ⟨v13, rfl, ho13, hb13⟩
    have s13 := hb13.size
    have A13 := Lib.hid (bt A12.out hb13)
    have K13 := Lib.hid (bt K12.out hb13)
    have W13 := Lib.hid (W12.out.below hb13 (by omega))
    have G13 := Lib.hid (G12.out.below hb13 (by omega))
    have HK13 := Lib.hid (HK12.out.below hb13)
    have HC := Lib.hid (HIM.out w13 v13 ho13.view)
    clear hb13 ho13 c0 c1 HK12 A12 K12 W12 G12
    go_wp2_with fail
    refine HC.out.mono ?_
    rintro e w14 ⟨v14, u14, rfl, hgm14, hb14⟩
    have ho14 := hgm14.graph
    have HU14 := Lib.hid (RowV.of_own hgm14.list)
    obtain ⟨ha, hc, rfl⟩ := own_slice hgm14.list
    clear hgm14
    have s14 := hb14.size
    have A14 := Lib.hid (bt A13.out hb14)
    have K14 := Lib.hid (bt K13.out hb14)
    have W14 := Lib.hid (W13.out.below hb14 (by omega))
    have G14 := Lib.hid (G13.out.below hb14 (by omega))
    have HK14 := Lib.hid (HK13.out.below hb14)
    have HV14 := Lib.hid ho14.view
    obtain ⟨i1, f1, i2, f2, rfl⟩ := ho14.slices
    obtain ⟨w15, hw15⟩ : ∃ w15, w15 = w14.alloc (.cells #[.slice i1 ts.length f1, .slice i2 t.length f2] 27) := ⟨_, rfl⟩
    have hAw15 : Below w14.heap.size w14 w15 := by rw [hw15]; exact (Below.refl w14.heap.size w14).alloc (Nat.le_refl _) _
    have I15 : Hid (Blk2 w15 w14.heap.size 27 (.slice i1 ts.length f1) (.slice i2 t.length f2)) := by rw [hw15]; exact Blk2.new
    have sw15 : w15.heap.size = w14.heap.size + 1 := by rw [hw15]; simp
    have Hw15 := Lib.hid hw15
    have A15 := Lib.hid (bt A14.out hAw15)
    have K15 := Lib.hid (bt K14.out hAw15)
    have G15 := Lib.hid (G14.out.below hAw15 (by omega))
    have HK15 := Lib.hid (HK14.out.below hAw15)
    have HV15 := Lib.hid (HV14.out.below hAw15)
    have HU15 := Lib.hid (HU14.out.below hAw15)
    clear hb14 ho14 hAw15 hw15 HC
    obtain ⟨y0, y1⟩ := W14.out.cells
    have z14 : w3.heap.size < w14.heap.size := by omega
    go_wp2_with fail
    rw [← Hw15.out]
    refine (HEQ.out w15 _ _ HV15.out (HV3.out.below A15.out)).mono ?_
    rintro e w15c ⟨rfl, hb15c⟩
    have A15c := Lib.hid (bt A15.out hb15c)
    have HU15c := Lib.hid (HU15.out.below hb15c)
    go_wp2_with fail
    refine (HES.out w15c _ _ HU15c.out (HU3.out.below A15c.out)).mono ?_
    rintro e w16 ⟨rfl, hb16c⟩
    have hb16 := bt hb15c hb16c
    clear hb15c hb16c
    have K16 := Lib.hid (bt K15.out hb16)
    have G16 := Lib.hid (G15.out.below hb16 (by omega))
    have HK16 := Lib.hid (HK15.out.below hb16)
    clear hb16 y0 y1
    obtain ⟨g0', g1'⟩ := G16.out.cells
    go_wp2_with fail
    refine (HHT.out _ w16 HK16.out.graph.view).mono ?_
    rintro e w16c ⟨rfl, hb16c⟩
    have HL16c := Lib.hid ((RowV.of_own HK16.out.list).below hb16c)
    go_wp2_with fail
    refine (HHS.out _ w16c HL16c.out).mono ?_
    rintro e w17 ⟨rfl, hb17c⟩
    have hb17 := bt hb16c hb17c
    clear hb16c hb17c
    have K17 := Lib.hid (bt K16.out hb17)
    clear hb17 g0' g1'
    go_wp2_with fail
    go_ret
    exact ⟨rfl, bt HA.out K17.out⟩
end Go.Proofs.Ytnkkbleebfijgaa

/- What l5Mend gathers along the stretch, as mathematics. -/
namespace Go.Proofs.Ytnkkbleebfijgaa
open Go.RowKit Pth

theorem ahead_far {ls : List (List Int)} {l : List Int} (hg : GoodP ls l) {x y : Int} (hx : x ∈ l) (hy : y ∈ l) : aheadP ls x y = decide (0 ≤ farI ls y x) := by
  rw [Bool.eq_iff_iff, aheadP_iff, dn_up hg hx hy, up_way hg hx, decide_eq_true_iff]
theorem behind_far {ls : List (List Int)} {l : List Int} (hg : GoodP ls l) {t y : Int} (hy : y ∈ l) : behindP ls t y = decide (0 ≤ farI ls t y) := by
  rw [Bool.eq_iff_iff, behindP_iff, up_way hg hy, decide_eq_true_iff]
/-- What lies ahead, behind, and where, among the first of a stretch. -/
noncomputable def aK (ls : List (List Int)) (x : Int) (st : List Int) (k : Nat) : List Int := (st.take k).filter (aheadP ls x)
noncomputable def bK (ls : List (List Int)) (t : Int) (st : List Int) (k : Nat) : List Int := (st.take k).filter (behindP ls t)
noncomputable def pK (ls : List (List Int)) (t x : Int) (st : List Int) (lo k : Nat) : List Nat := (locK st (bothP ls t x) k).map (lo + ·)
theorem take_filter_yes {st : List Int} {p : Int → Bool} {k : Nat} (hk : k < st.length) (h : p st[k] = true) : (st.take (k + 1)).filter p = (st.take k).filter p ++ [st[k]] := by
  rw [List.take_succ_eq_append_getElem hk, List.filter_append]; simp [h]
theorem take_filter_no {st : List Int} {p : Int → Bool} {k : Nat} (hk : k < st.length) (h : p st[k] = false) : (st.take (k + 1)).filter p = (st.take k).filter p := by
  rw [List.take_succ_eq_append_getElem hk, List.filter_append]; simp [h]
theorem gather_ahead {ls : List (List Int)} {t x : Int} {st : List Int} {lo k : Nat} (hk : k < st.length) (h1 : aheadP ls x st[k] = true) (h2 : behindP ls t st[k] = false) :
    aK ls x st (k + 1) = aK ls x st k ++ [st[k]] ∧ bK ls t st (k + 1) = bK ls t st k ∧ pK ls t x st lo (k + 1) = pK ls t x st lo k ++ [lo + k] :=
  ⟨take_filter_yes hk h1, take_filter_no hk h2, by unfold pK; rw [locK_yes hk (by unfold bothP; rw [h1]; rfl), List.map_append]; rfl⟩
theorem gather_behind {ls : List (List Int)} {t x : Int} {st : List Int} {lo k : Nat} (hk : k < st.length) (h1 : aheadP ls x st[k] = false) (h2 : behindP ls t st[k] = true) :
    aK ls x st (k + 1) = aK ls x st k ∧ bK ls t st (k + 1) = bK ls t st k ++ [st[k]] ∧ pK ls t x st lo (k + 1) = pK ls t x st lo k ++ [lo + k] :=
  ⟨take_filter_no hk h1, take_filter_yes hk h2, by unfold pK; rw [locK_yes hk (by unfold bothP; rw [h1, h2]; rfl), List.map_append]; rfl⟩
theorem gather_none {ls : List (List Int)} {t x : Int} {st : List Int} {lo k : Nat} (hk : k < st.length) (h1 : aheadP ls x st[k] = false) (h2 : behindP ls t st[k] = false) :
    aK ls x st (k + 1) = aK ls x st k ∧ bK ls t st (k + 1) = bK ls t st k ∧ pK ls t x st lo (k + 1) = pK ls t x st lo k :=
  ⟨take_filter_no hk h1, take_filter_no hk h2, by unfold pK; rw [locK_no hk (by unfold bothP; rw [h1, h2]; rfl)]⟩
theorem gather_done (ls : List (List Int)) (t x : Int) (st : List Int) (lo : Nat) : aK ls x st st.length ++ bK ls t st st.length = movesL ls t x st ∧ pK ls t x st lo st.length = placesL ls t x st lo := by
  unfold aK bK pK movesL placesL
  rw [List.take_length]
  exact ⟨rfl, rfl⟩
theorem moved_self (l : List Int) : movedL l l = [] := by
  unfold movedL
  induction l with
  | nil => rfl
  | cons a r ih => rw [List.zip_cons_cons, List.filter_cons_of_neg (by simp)]; exact ih
end Go.Proofs.Ytnkkbleebfijgaa

/- Walks: l5Mend of the reference. -/
namespace Go.Proofs.Ytnkkbleebfijgaa
open Go.RowKit Pth

set_option maxRecDepth 20000 in
set_option maxHeartbeats 8000000 in
theorem l5Mend_no (ls : List (List Int)) (l : List Int) (t x : Nat) (B gO cO : Nat) (nv : Value) (w : World) (hst : GraphV w (.agg #[nv, .slice (some ⟨gO, 0, none⟩) l.length cO]) ls l) (hown : w.ownsRow B 3 1 (.slice (some ⟨gO, 0, none⟩) l.length cO) l.length (I l)) (hG : GoodG ls l) (ht : t < ls.length) (hx : x < ls.length) (hlt : pos l (x : Int) < pos l (t : Int)) :
    Calls Try.prog 48 #[.agg #[nv, .slice (some ⟨gO, 0, none⟩) l.length cO], .int .i64 (t : Int), .int .i64 (x : Int)] w fun e w' => ∃ u, e = .returned u ∧ w'.ownsRow w.heap.size 3 1 u (sortI (movedL l (mendO ls l t x))).length (I (sortI (movedL l (mendO ls l t x)))) ∧ w'.ownsRow B 3 1 (.slice (some ⟨gO, 0, none⟩) l.length cO) l.length (I (mendO ls l t x)) ∧ w.grownBy w' (some gO) := by
  have hmo : mendO ls l t x = l := by unfold mendO; rw [if_pos hlt]
  have hmv : sortI (movedL l (mendO ls l t x)) = [] := by rw [hmo, moved_self]; simp [sortI]
  rw [hmv, hmo]
  have HO := Lib.hid hown
  have hgp := hG.toP
  have htl : (t : Int) ∈ l := hgp.all.2 ⟨by omega, by omega⟩
  have hxl : (x : Int) ∈ l := hgp.all.2 ⟨by omega, by omega⟩
  obtain ⟨an, cn, rfl, hn1, hn2, _⟩ := hst.parts.1.lists
  unfold maxLen at hn2
  have HRO := Lib.hid (RowV.of_own hown)
  obtain ⟨wa, hwa⟩ : ∃ wa, wa = w.alloc (.cells #[.slice an ls.length cn, .slice (some ⟨gO, 0, none⟩) l.length cO] 27) := ⟨_, rfl⟩
  have P0 : Hid (Blk2 wa w.heap.size 27 (.slice an ls.length cn) (.slice (some ⟨gO, 0, none⟩) l.length cO)) := by rw [hwa]; exact Blk2.new
  have HA : Hid (Below w.heap.size w wa) := by rw [hwa]; exact (Below.refl w.heap.size w).alloc (Nat.le_refl _) _
  have HWA := Lib.hid hwa
  obtain ⟨c0, c1⟩ := P0.out.cells
  have HP1 := Lib.hid (l5Place_any l (t : Int) _ wa (HRO.out.below HA.out))
  have HP2 := Lib.hid (l5Place_any l (x : Int) _ wa (HRO.out.below HA.out))
  rw [place_mem htl] at HP1
  rw [place_mem hxl] at HP2
  generalize pos l (t : Int) = lo at *
  generalize pos l (x : Int) = hi at *
  have hgt : decide ((lo : Int) > (hi : Int)) = true := by rw [decide_eq_true_iff]; omega
  clear hwa hst hown hmo hmv
  go_enter Try.func48, Try.ntmps48
  go_wp2_with fail
  rw [← HWA.out]
  refine HP1.out.mono ?_
  rintro e w1 ⟨rfl, rfl⟩
  go_wp2_with fail
  refine HP2.out.mono ?_
  rintro e w1 ⟨rfl, rfl⟩
  go_wp2_with fail
  go_ret
  exact ⟨_, rfl, none_ownZ _ _ _, own_below HO.out HA.out, below_grown HA.out⟩


end Go.Proofs.Ytnkkbleebfijgaa

/- What l5Mend makes of what it gathers, as mathematics; an append of one, with where it lies, as a step of the walk. -/
namespace Go.Proofs.Ytnkkbleebfijgaa
open Go.RowKit Pth

theorem mend_parts {ls : List (List Int)} {l : List Int} (hG : GoodG ls l) {t x : Int} (ht : t ∈ l) (hx : x ∈ l) (hloop : farI ls t x < 0) {lo hi : Nat} (hlo : lo = pos l t) (hhi : hi = pos l x) (hle : lo ≤ hi) {st : List Int} (hst : st = strL l lo hi) :
    mendO ls l t x = newO l (placesL ls t x st lo) (movesL ls t x st) ∧ sortI (movedL l (mendO ls l t x)) = movK l ((placesL ls t x st lo).zip (movesL ls t x st)) ∧ (placesL ls t x st lo).length = (movesL ls t x st).length ∧ (∀ p ∈ placesL ls t x st lo, p < l.length) := by
  have hgp := hG.toP
  have hhil : hi < l.length := by rw [hhi]; exact pos_lt hx
  have h1 : mendO ls l t x = newO l (placesL ls t x st lo) (movesL ls t x st) := by unfold mendO; rw [if_neg (by omega), ← hlo, ← hhi, ← hst]
  have hsg : ∀ k (hk : k < st.length), ∃ h : lo + k < l.length, l[lo + k] = st[k] := fun k hk => by subst hst; exact strL_get hhil hle k hk
  have hsm : ∀ y ∈ st, y ∈ l := fun y hy => by
    obtain ⟨k, hk, rfl⟩ := List.getElem_of_mem hy
    obtain ⟨h, e⟩ := hsg k hk
    rw [← e]; exact List.getElem_mem h
  have hperm := moves_perm hgp ht hx hloop hsm
  have hlen : (placesL ls t x st lo).length = (movesL ls t x st).length := by unfold placesL; rw [List.length_map, hperm.length_eq, List.length_map]
  have hin : ∀ p ∈ placesL ls t x st lo, p < l.length := by
    intro p hp
    unfold placesL at hp
    obtain ⟨i, hi', rfl⟩ := List.mem_map.1 hp
    exact (hsg i (mem_locK.1 hi').1).1
  have hnod : (placesL ls t x st lo).Nodup := by
    unfold placesL
    exact List.Pairwise.map _ (fun a b h => by omega) (locK_nodup _ _ _)
  refine ⟨h1, ?_, hlen, hin⟩
  rw [h1]
  refine moved_same hG.nodup hnod hin hlen (hperm.trans (List.Perm.of_eq ?_))
  unfold placesL
  rw [List.map_map]
  refine List.map_congr_left (fun i hi' => ?_)
  obtain ⟨h, e⟩ := hsg i (mem_locK.1 hi').1
  show st.getD i 0 = l.getD (lo + i) 0
  rw [getD_in (mem_locK.1 hi').1, getD_in h, e]

theorem wpAppAt {ops : Array Oper} {rest : List Oper} {o : Oper} {a : Act} {Q : Exit → Act → World → Prop} {w : World} {x : Int} (hgd : o.guard = none) (s u : Operand)
    (ho : o.op = .call { callee := .builtin .append, args := #[s, u], argTypes := #[23, 23] }) (B : Nat) (v : Value) (m : List Int) (hs : a.eval s = v) (hown : w.ownsRow B 3 1 v m.length (I m)) (N : Nat) (hx : a.eval u = .slice (some ⟨N, 0, none⟩) 1 1) (hN : N = w.heap.size)
    (hm : m.length ≤ 1000) (hB : B ≤ w.heap.size)
    (h : ∀ v' w', w'.ownsRow B 3 1 v' (m ++ [x]).length (I (m ++ [x])) → w.grownBy w' v.ownBlock → (∀ b, v'.ownBlock = some b → v.ownBlock = some b ∨ w.heap.size ≤ b) → wpList Try.prog ops Q rest (a.put o.dst v') w') :
    wpList Try.prog ops Q (o :: rest) a (w.alloc (.cells #[.int .i64 x] 3)) := by
  subst hN
  obtain ⟨v', w', h1, h2, h3, h4⟩ := app_at m x v B w hown hm hB o.type
  exact wpList_runApp hgd s u ho hs hx h1 (h v' w' h2 h3 h4)
end Go.Proofs.Ytnkkbleebfijgaa

/- Walks: l5Mend of the reference where the order is to be mended. -/
namespace Go.Proofs.Ytnkkbleebfijgaa
open Go.RowKit Pth

theorem Lists.l1 {B : Nat} {w : World} {a b c : Value} {A D E : List Int} (h : Lists B w [(a, A), (b, D), (c, E)]) : w.ownsRow B 3 1 a A.length (I A) := h.1 (a, A) (by simp)
theorem Lists.l2 {B : Nat} {w : World} {a b c : Value} {A D E : List Int} (h : Lists B w [(a, A), (b, D), (c, E)]) : w.ownsRow B 3 1 b D.length (I D) := h.1 (b, D) (by simp)
theorem Lists.l3 {B : Nat} {w : World} {a b c : Value} {A D E : List Int} (h : Lists B w [(a, A), (b, D), (c, E)]) : w.ownsRow B 3 1 c E.length (I E) := h.1 (c, E) (by simp)
theorem Lists.ap13 {B : Nat} {w : World} {a b c : Value} {A D E : List Int} (h : Lists B w [(a, A), (b, D), (c, E)]) : ∀ k, a.ownBlock = some k → c.ownBlock ≠ some k := fun k h1 h2 => (List.pairwise_cons.1 h.2).1 (c, E) (by simp) k h1 h2
theorem Lists.t1 {B : Nat} {w w' : World} {a b c v : Value} {A D E F : List Int} (h : Lists B w [(a, A), (b, D), (c, E)]) (hg : w.grownBy w' a.ownBlock) (hown : w'.ownsRow B 3 1 v F.length (I F)) (hv : ∀ k, v.ownBlock = some k → a.ownBlock = some k ∨ w.heap.size ≤ k) : Lists B w' [(v, F), (b, D), (c, E)] :=
  Lists.turn (L := []) (M := [(b, D), (c, E)]) h hg hown hv
theorem Lists.t2 {B : Nat} {w w' : World} {a b c v : Value} {A D E F : List Int} (h : Lists B w [(a, A), (b, D), (c, E)]) (hg : w.grownBy w' b.ownBlock) (hown : w'.ownsRow B 3 1 v F.length (I F)) (hv : ∀ k, v.ownBlock = some k → b.ownBlock = some k ∨ w.heap.size ≤ k) : Lists B w' [(a, A), (v, F), (c, E)] :=
  Lists.turn (L := [(a, A)]) (M := [(c, E)]) h hg hown hv
theorem Lists.t3 {B : Nat} {w w' : World} {a b c v : Value} {A D E F : List Int} (h : Lists B w [(a, A), (b, D), (c, E)]) (hg : w.grownBy w' c.ownBlock) (hown : w'.ownsRow B 3 1 v F.length (I F)) (hv : ∀ k, v.ownBlock = some k → c.ownBlock = some k ∨ w.heap.size ≤ k) : Lists B w' [(a, A), (b, D), (v, F)] :=
  Lists.turn (L := [(a, A), (b, D)]) (M := []) h hg hown hv
theorem far_get {ls : List (List Int)} {y : Int} {x : Nat} (hx : x < ls.length) : (I ((upto ls.length).map (farI ls y)))[x]? = some (.int .i64 (farI ls y (x : Int))) := by
  simp [I, upto, hx]
theorem rowv_at {W : World} {a : Option Addr} {c : Nat} {M : List Int} (h : RowV W (.slice a M.length c) (I M)) (i : Nat) (hi : i < M.length) : ∃ g o, a = some ⟨g, o, none⟩ ∧ W.cell? ⟨g, o + i, none⟩ = some (.int .i64 M[i]) := by
  obtain ⟨_, _, e, _, _, hc⟩ := h.ints
  injection e with e1 _ _
  obtain ⟨g, o, e2, _, e3⟩ := hc i hi
  exact ⟨g, o, by rw [e1, e2], e3⟩
theorem Ip_is (l : List Nat) : l.map Int.ofNat = Ip l := rfl

set_option maxRecDepth 20000 in
set_option maxHeartbeats 16000000 in
theorem l5Mend_yes (ls : List (List Int)) (l : List Int) (t x : Nat) (B gO cO : Nat) (nv : Value) (w : World) (hst : GraphV w (.agg #[nv, .slice (some ⟨gO, 0, none⟩) l.length cO]) ls l) (hown : w.ownsRow B 3 1 (.slice (some ⟨gO, 0, none⟩) l.length cO) l.length (I l)) (hG : GoodG ls l) (ht : t < ls.length) (hx : x < ls.length) (hloop : farI ls t x < 0) (hlt : pos l (t : Int) ≤ pos l (x : Int)) :
    Calls Try.prog 48 #[.agg #[nv, .slice (some ⟨gO, 0, none⟩) l.length cO], .int .i64 (t : Int), .int .i64 (x : Int)] w fun e w' => ∃ u, e = .returned u ∧ w'.ownsRow w.heap.size 3 1 u (sortI (movedL l (mendO ls l t x))).length (I (sortI (movedL l (mendO ls l t x)))) ∧ w'.ownsRow B 3 1 (.slice (some ⟨gO, 0, none⟩) l.length cO) l.length (I (mendO ls l t x)) ∧ w.grownBy w' (some gO) := by
  have HV := Lib.hid hst
  have HO := Lib.hid hown
  have hgp := hG.toP
  have htl : (t : Int) ∈ l := hgp.all.2 ⟨by omega, by omega⟩
  have hxl : (x : Int) ∈ l := hgp.all.2 ⟨by omega, by omega⟩
  obtain ⟨an, cn, rfl, hn1, hn2, _⟩ := hst.parts.1.lists
  obtain ⟨hcO1, hcO2⟩ : l.length ≤ cO ∧ cO ≤ 2 ^ 63 - 1 := by
    rcases hown.2 with ⟨e, _⟩ | ⟨g', cap, cur, e, _, _, h5, h6, _⟩
    · cases e
    · injection e with _ _ e3; unfold maxLen at h6; omega
  have hgOw := (hown.lt gO rfl).2
  unfold maxLen at hn2
  have HRO := Lib.hid (RowV.of_own hown)
  obtain ⟨wa, hwa⟩ : ∃ wa, wa = w.alloc (.cells #[.slice an ls.length cn, .slice (some ⟨gO, 0, none⟩) l.length cO] 27) := ⟨_, rfl⟩
  have P0 : Hid (Blk2 wa w.heap.size 27 (.slice an ls.length cn) (.slice (some ⟨gO, 0, none⟩) l.length cO)) := by rw [hwa]; exact Blk2.new
  have HA : Hid (Below w.heap.size w wa) := by rw [hwa]; exact (Below.refl w.heap.size w).alloc (Nat.le_refl _) _
  have HWA := Lib.hid hwa
  have hsa : w.heap.size < wa.heap.size := lt_of_block P0.out
  obtain ⟨c0, c1⟩ := P0.out.cells
  have HP1 := Lib.hid (l5Place_any l (t : Int) _ wa (HRO.out.below HA.out))
  have HP2 := Lib.hid (l5Place_any l (x : Int) _ wa (HRO.out.below HA.out))
  rw [place_mem htl] at HP1
  rw [place_mem hxl] at HP2
  obtain ⟨lo, hlo⟩ : ∃ lo, lo = pos l (t : Int) := ⟨_, rfl⟩
  obtain ⟨hi, hhi⟩ : ∃ hi, hi = pos l (x : Int) := ⟨_, rfl⟩
  have hhil : hi < l.length := by rw [hhi]; exact pos_lt hxl
  obtain ⟨st, hst'⟩ : ∃ st, st = strL l lo hi := ⟨_, rfl⟩
  rw [← hlo] at HP1 hlt
  rw [← hhi] at HP2 hlt
  obtain ⟨pm1, pm2, pm3, pm4⟩ := mend_parts hG htl hxl hloop hlo hhi hlt hst'
  obtain ⟨ps, hps⟩ : ∃ ps, ps = placesL ls t x st lo := ⟨_, rfl⟩
  obtain ⟨M, hM⟩ : ∃ M, M = movesL ls t x st := ⟨_, rfl⟩
  rw [← hps, ← hM] at pm1 pm2 pm3
  rw [← hps] at pm4
  rw [pm2, pm1]
  have HP3 := Lib.hid pm3
  have HP4 := Lib.hid pm4
  have HGA : Hid (aK ls x st st.length ++ bK ls t st st.length = M ∧ pK ls t x st lo st.length = ps) := by rw [hps, hM]; exact gather_done ls t x st lo
  have hgt : decide ((lo : Int) > (hi : Int)) = false := by rw [decide_eq_false_iff_not]; omega
  have HFT := Lib.hid (fun W (h : Below wa.heap.size wa W) => l5Far_any ls l t _ W (HV.out.below (bth HA.out h (Nat.le_refl _))) hG ht)
  have HSG : Hid (∀ k (hk : k < st.length), ∃ h : lo + k < l.length, l[lo + k] = st[k]) := fun k hk => by subst hst'; exact strL_get hhil hlt k hk
  have HSN : Hid (st.length = hi + 1 - lo) := by show _ = _; rw [hst']; exact strL_len hhil hlt
  have HSM : Hid (∀ k (hk : k < st.length), st[k] ∈ l) := fun k hk => by obtain ⟨h, e⟩ := HSG.out k hk; rw [← e]; exact List.getElem_mem h
  have HGP := Lib.hid hgp
  have HFA := Lib.hid (fun W (h : Below w.heap.size w W) (q : Nat) (hq : q < ls.length) => l5Far_any ls l q _ W (HV.out.below h) hG hq)
  have h10 : ls.length ≤ 10 := hG.high
  have HLL : Hid (l.length = ls.length) := hG.same
  have HXL := Lib.hid hxl
  have HTL := Lib.hid htl
  have HLO := Lib.hid hloop
  have hll0 : 0 < l.length := by omega
  clear hwa hst hown hst' hlo hhi pm1 pm2 pm3 pm4 hps hM hG hgp htl hxl hloop
  go_enter Try.func48, Try.ntmps48
  go_wp2_with fail
  rw [← HWA.out]
  refine HP1.out.mono ?_
  rintro e w1 ⟨rfl, rfl⟩
  go_wp2_with fail
  refine HP2.out.mono ?_
  rintro e w1 ⟨rfl, rfl⟩
  go_wp2_with fail
  refine (HFT.out wa (Below.refl _ _)).mono ?_
  rintro e w1 ⟨v1, rfl, ho1, hb1⟩
  rw [far_len] at ho1
  obtain ⟨fa, fc, rfl⟩ : ∃ a c, v1 = .slice a ls.length c := by
    obtain ⟨a, c, he, _⟩ := RowV.of_own ho1
    exact ⟨a, c, by rw [he, I_len, far_len]⟩
  have HF1 := Lib.hid ho1
  have HB1 := Lib.hid (bth HA.out hb1 (Nat.le_refl _))
  have K1 := Lib.hid hb1
  have hs1 := hb1.size
  clear ho1 hb1 c0 c1 HP1 HP2 HFT
  go_wp2_with fail
  go_loopw [10, 11, 12, 13] (fun av bv pv i wr => ∃ k : Nat, k ≤ st.length ∧ i = .int .i64 ((lo + k : Nat) : Int) ∧ Hid (Lists w1.heap.size wr [(av, aK ls x st k), (bv, bK ls t st k), (pv, Ip (pK ls t x st lo k))]) ∧ Hid (Below w1.heap.size w1 wr)) (fun _ _ _ i _ => hi + 1 - (intOf i).toNat)
  case atStart => exact ⟨0, Nat.zero_le _, rfl, ⟨fun p hp => by simp [aK, bK, pK, locK, Ip] at hp; rcases hp with rfl | rfl | rfl <;> exact ⟨rfl, .inl ⟨rfl, rfl⟩⟩, by simp [Apart, Value.ownBlock]⟩, Below.refl _ _⟩
  case round =>
    obtain ⟨k, hk, rfl, HL, HB⟩ := hrel
    have hstl : st.length ≤ 10 := by have := HSN.out; have := HLL.out; omega
    have HBW := Lib.hid (bth HB1.out HB.out (Nat.le_refl _))
    have hB1r := HB.out.size
    by_cases hkl : k < st.length
    · obtain ⟨hlk, hge⟩ := HSG.out k hkl
      have hym := HSM.out k hkl
      have hrg := HGP.out.range _ hym
      obtain ⟨y, hy⟩ : ∃ y : Nat, st[k] = y := ⟨(st[k]).toNat, by omega⟩
      have hyl : y < ls.length := by omega
      have PW := Lib.hid (P0.out.below (bth K1.out HB.out (Nat.le_refl _)) hsa)
      obtain ⟨c0, c1⟩ := PW.out.cells
      have hoc : wr.cell? ⟨gO, lo + k, none⟩ = some (.int .i64 (y : Int)) := by
        rw [(own_below HO.out HBW.out).cellAt (lo + k) (by omega), I_at hlk, hge, hy]
      have hAF : aheadP ls x (y : Int) = decide (farI ls y x ≥ 0) := by rw [← hy]; exact ahead_far HGP.out HXL.out hym
      have hBF : behindP ls t (y : Int) = decide (farI ls t y ≥ 0) := by rw [← hy]; exact behind_far HGP.out hym
      have hAP : ¬ (aheadP ls x (y : Int) = true ∧ behindP ls t (y : Int) = true) := by rw [← hy]; exact apart_two HGP.out HTL.out HXL.out HLO.out hym
      have hgA := gather_ahead (ls := ls) (t := t) (x := x) (lo := lo) hkl
      have hgB := gather_behind (ls := ls) (t := t) (x := x) (lo := lo) hkl
      have hgN := gather_none (ls := ls) (t := t) (x := x) (lo := lo) hkl
      rw [hy] at hgA hgB hgN
      have hla : (aK ls x st k).length ≤ 10 := by have := List.length_filter_le (aheadP ls x) (st.take k); rw [List.length_take] at this; unfold aK; omega
      have hlb : (bK ls t st k).length ≤ 10 := by have := List.length_filter_le (behindP ls t) (st.take k); rw [List.length_take] at this; unfold bK; omega
      have hlp : (Ip (pK ls t x st lo k)).length ≤ 10 := by rw [Ip_len]; unfold pK; rw [List.length_map]; have := locK_len st (bothP ls t x) k; omega
      -- what is known of the next lists, under letters
      obtain ⟨A, hA⟩ : ∃ A, A = aK ls x st k := ⟨_, rfl⟩
      obtain ⟨D, hD⟩ : ∃ D, D = bK ls t st k := ⟨_, rfl⟩
      obtain ⟨P, hP⟩ : ∃ P, P = Ip (pK ls t x st lo k) := ⟨_, rfl⟩
      obtain ⟨fx, hfx⟩ : ∃ f, f = farI ls y x := ⟨_, rfl⟩
      obtain ⟨fy, hfy⟩ : ∃ f, f = farI ls t y := ⟨_, rfl⟩
      have HgA : Hid (fx ≥ 0 → aK ls x st (k + 1) = A ++ [(y : Int)] ∧ bK ls t st (k + 1) = D ∧ Ip (pK ls t x st lo (k + 1)) = P ++ [((lo + k : Nat) : Int)]) := fun h => by
        have h1 : aheadP ls x (y : Int) = true := by rw [hAF, ← hfx]; simpa using h
        have h2 : behindP ls t (y : Int) = false := by
          cases hh : behindP ls t (y : Int) with
          | false => rfl
          | true => exact absurd ⟨h1, hh⟩ hAP
        obtain ⟨e1, e2, e3⟩ := hgA h1 h2
        exact ⟨by rw [e1, hA], by rw [e2, hD], by rw [e3, Ip_snoc, hP]⟩
      have HgB : Hid (fx < 0 → fy ≥ 0 → aK ls x st (k + 1) = A ∧ bK ls t st (k + 1) = D ++ [(y : Int)] ∧ Ip (pK ls t x st lo (k + 1)) = P ++ [((lo + k : Nat) : Int)]) := fun h h' => by
        have h1 : aheadP ls x (y : Int) = false := by rw [hAF, ← hfx]; simpa using h
        have h2 : behindP ls t (y : Int) = true := by rw [hBF, ← hfy]; simpa using h'
        obtain ⟨e1, e2, e3⟩ := hgB h1 h2
        exact ⟨by rw [e1, hA], by rw [e2, hD], by rw [e3, Ip_snoc, hP]⟩
      have HgN : Hid (fx < 0 → fy < 0 → aK ls x st (k + 1) = A ∧ bK ls t st (k + 1) = D ∧ Ip (pK ls t x st lo (k + 1)) = P) := fun h h' => by
        have h1 : aheadP ls x (y : Int) = false := by rw [hAF, ← hfx]; simpa using h
        have h2 : behindP ls t (y : Int) = false := by rw [hBF, ← hfy]; simpa using h'
        obtain ⟨e1, e2, e3⟩ := hgN h1 h2
        exact ⟨by rw [e1, hA], by rw [e2, hD], by rw [e3, hP]⟩
      rw [← hA] at hla HL
      rw [← hD] at hlb HL
      rw [← hP] at hlp HL
      have HFX : Hid (∀ (W : World) u B, W.ownsRow B 3 1 u ls.length (I ((upto ls.length).map (farI ls y))) → ∃ g c, u = .slice (some ⟨g, 0, none⟩) ls.length c ∧ ls.length ≤ c ∧ c ≤ 2 ^ 63 - 1 ∧ W.cell? ⟨g, x, none⟩ = some (.int .i64 fx)) := fun W u B h => by
        rcases h.2 with ⟨_, h0⟩ | ⟨g, cap, cur, hv, _, _, h5, h6, _⟩
        · omega
        · exact ⟨g, cap, hv, h5, by unfold maxLen at h6; exact h6, by subst hv; rw [h.cellAt x (by omega), far_get hx, hfx]⟩
      have HFY : Hid (∀ W, Below w1.heap.size w1 W → ∃ g, fa = some ⟨g, 0, none⟩ ∧ ls.length ≤ fc ∧ fc ≤ 2 ^ 63 - 1 ∧ W.cell? ⟨g, y, none⟩ = some (.int .i64 fy)) := fun W h => by
        have hW := own_below HF1.out h
        rcases hW.2 with ⟨_, h0⟩ | ⟨g, cap, cur, hv, _, _, h5, h6, _⟩
        · omega
        · injection hv with e1 _ e3
          subst e1 e3
          exact ⟨g, rfl, h5, by unfold maxLen at h6; exact h6, by rw [hW.cellAt y (by omega), far_get hyl, hfy]⟩
      obtain ⟨p, hp⟩ : ∃ p, lo + k = p := ⟨_, rfl⟩
      rw [hp] at hoc HgA HgB
      have hix : (p : Int) < (l.length : Int) := by omega
      have hle : decide ((p : Int) ≤ (hi : Int)) = true := by rw [decide_eq_true_iff]; have := HSN.out; omega
      have hy2 : (y : Int) < (ls.length : Int) := by omega
      have hx2 : (x : Int) < (ls.length : Int) := by omega
      have HPN : Hid (((lo + (k + 1) : Nat) : Int) = (p : Int) + 1) := by show _ = _; omega
      have HPP : Hid ((intOf (.int .i64 ((p : Int) + 1))).toNat = p + 1) := by show _ = _; simp [intOf]
      have hphi : p ≤ hi := by have := HSN.out; omega
      clear hAF hBF hAP hgA hgB hgN hge hym hrg hy hlk hA hD hP hfx hfy
      rw [hp]
      clear hp
      go_wp2_with fail
      refine (HFA.out wr HBW.out y hyl).mono ?_
      rintro e w2 ⟨v2, rfl, ho2, hb2⟩
      rw [far_len] at ho2
      obtain ⟨gx, cx, rfl, hcx1, hcx2, hcx⟩ := HFX.out w2 _ _ ho2
      have HB2 := Lib.hid (bth HB.out hb2 (Nat.le_refl _))
      have HL2 := Lib.hid (HL.out.below hb2)
      have hB2s := HB2.out.size
      obtain ⟨gy, rfl, hcy1, hcy2, hcy⟩ := HFY.out w2 HB2.out
      clear ho2 hb2 HFX c0 c1 hoc HL HB
      by_cases hfx : fx ≥ 0
      · obtain ⟨e1, e2, e3⟩ := HgA.out hfx
        have E1 := Lib.hid e1
        have E2 := Lib.hid e2
        have E3 := Lib.hid e3
        have dfx : decide (fx ≥ 0) = true := by simpa using hfx
        clear e1 e2 e3 HgA HgB HgN hfx
        go_wp2_with (at_builtin; first
          | (refine wpAppAt rfl _ _ rfl w1.heap.size _ A rfl HL2.out.l1 _ rfl rfl (by omega) hB2s ?_; intro v3 w3 ho3 hg3 hv3
             have HL3 := Lib.hid (HL2.out.t1 hg3 ho3 hv3)
             have HB3 := Lib.hid (HB2.out.trans (below_own HL2.out.l1 hg3 hB2s))
             have hB3s := HB3.out.size
             clear ho3 hg3 hv3)
          | (refine wpAppAt rfl _ _ rfl w1.heap.size _ P rfl HL3.out.l3 _ rfl rfl (by omega) hB3s ?_; intro v4 w4 ho4 hg4 hv4
             have HL4 := Lib.hid (HL3.out.t3 hg4 ho4 hv4)
             have HB4 := Lib.hid (HB3.out.trans (below_own HL3.out.l3 hg4 hB3s))
             clear ho4 hg4 hv4))
        go_roundw
        case rel => exact ⟨k + 1, by omega, by rw [HPN.out], by rw [E1.out, E2.out, E3.out]; exact HL4, HB4⟩
        case measure => rw [HPP.out]; simp [intOf]; omega
      · have hfx' : fx < 0 := by omega
        have dfx : decide (fx ≥ 0) = false := by simpa using hfx
        by_cases hfy : fy ≥ 0
        · obtain ⟨e1, e2, e3⟩ := HgB.out hfx' hfy
          have E1 := Lib.hid e1
          have E2 := Lib.hid e2
          have E3 := Lib.hid e3
          have dfy : decide (fy ≥ 0) = true := by simpa using hfy
          clear e1 e2 e3 HgA HgB HgN hfx hfx' hfy
          go_wp2_with (at_builtin; first
            | (refine wpAppAt rfl _ _ rfl w1.heap.size _ D rfl HL2.out.l2 _ rfl rfl (by omega) hB2s ?_; intro v3 w3 ho3 hg3 hv3
               have HL3 := Lib.hid (HL2.out.t2 hg3 ho3 hv3)
               have HB3 := Lib.hid (HB2.out.trans (below_own HL2.out.l2 hg3 hB2s))
               have hB3s := HB3.out.size
               clear ho3 hg3 hv3)
            | (refine wpAppAt rfl _ _ rfl w1.heap.size _ P rfl HL3.out.l3 _ rfl rfl (by omega) hB3s ?_; intro v4 w4 ho4 hg4 hv4
               have HL4 := Lib.hid (HL3.out.t3 hg4 ho4 hv4)
               have HB4 := Lib.hid (HB3.out.trans (below_own HL3.out.l3 hg4 hB3s))
               clear ho4 hg4 hv4))
          go_roundw
          case rel => exact ⟨k + 1, by omega, by rw [HPN.out], by rw [E1.out, E2.out, E3.out]; exact HL4, HB4⟩
          case measure => rw [HPP.out]; simp [intOf]; omega
        · have hfy' : fy < 0 := by omega
          obtain ⟨e1, e2, e3⟩ := HgN.out hfx' hfy'
          have E1 := Lib.hid e1
          have E2 := Lib.hid e2
          have E3 := Lib.hid e3
          have dfy : decide (fy ≥ 0) = false := by simpa using hfy
          clear e1 e2 e3 HgA HgB HgN hfx hfx' hfy hfy'
          go_wp2_with fail
          go_roundw
          case rel => exact ⟨k + 1, by omega, by rw [HPN.out], by rw [E1.out, E2.out, E3.out]; exact HL2, HB2⟩
          case measure => rw [HPP.out]; simp [intOf]; omega
    · obtain rfl : k = st.length := by omega
      obtain ⟨gd1, gd2⟩ := HGA.out
      have HGD := Lib.hid gd1
      have hla : (aK ls x st st.length).length ≤ 10 := by have := List.length_filter_le (aheadP ls x) (st.take st.length); rw [List.length_take] at this; unfold aK; omega
      have hlb : (bK ls t st st.length).length ≤ 10 := by have := List.length_filter_le (behindP ls t) (st.take st.length); rw [List.length_take] at this; unfold bK; omega
      rw [gd2] at HL
      have hML : M.length ≤ 20 := by have := congrArg List.length gd1; rw [List.length_append] at this; omega
      obtain ⟨p, hp⟩ : ∃ p, lo + st.length = p := ⟨_, rfl⟩
      have hnle : ¬ p ≤ hi := by have := HSN.out; omega
      rw [hp]
      clear hp
      clear gd1 gd2 HGA
      generalize aK ls x st st.length = A at *
      generalize bK ls t st st.length = D at *
      have ha := HL.out.l1
      have hb := HL.out.l2
      obtain ⟨e1v, w2, run1, o1, g1, ka1, hv1⟩ := app_keep A D _ _ w1.heap.size wr ha (RowV.of_own hb) (by omega) (by omega) hB1r 23
      have HL2 := Lib.hid (HL.out.t1 g1 o1 hv1)
      have HB2 := Lib.hid (HB.out.trans (below_own ha g1 hB1r))
      have KA2 := Lib.hid ka1
      have HAP0 := Lib.hid HL.out.ap13
      obtain ⟨aa, ac, hav⟩ := own_slice ha
      obtain ⟨da, dc, hdv⟩ := own_slice hb
      obtain ⟨pa, pc, hpv⟩ := own_slice HL.out.l3
      rw [HGD.out] at o1 HL2
      obtain ⟨ea, ec, hev⟩ := own_slice o1
      subst hev hav hdv hpv
      rw [Ip_len] at *
      have HE := Lib.hid (RowV.of_own o1)
      clear ha hb o1 g1 ka1 hv1 HL HB
      have hB2s := HB2.out.size
      have HBW2 := Lib.hid (bth HB1.out HB2.out (Nat.le_refl _))
      -- what lies, read later
      have hec : M.length ≤ ec ∧ ec ≤ 2 ^ 63 - 1 := by obtain ⟨_, _, h, h3, h4, _⟩ := HE.out.ints; injection h with _ _ h5; unfold maxLen at h4; omega
      obtain ⟨hec1, hec2⟩ := hec
      have hpc : ps.length ≤ pc ∧ pc ≤ 2 ^ 63 - 1 := by obtain ⟨_, _, h, h3, h4, _⟩ := (RowV.of_own HL2.out.l3).ints; injection h with _ _ h5; unfold maxLen at h4; rw [Ip_len] at h3; omega
      obtain ⟨hpc1, hpc2⟩ := hpc
      have HEC : Hid (∀ W, RowV W (.slice ea M.length ec) (I M) → ∀ i (hi : i < M.length), ∃ g o, ea = some ⟨g, o, none⟩ ∧ W.cell? ⟨g, o + i, none⟩ = some (.int .i64 M[i])) := fun W h i hi' => by
        obtain ⟨_, _, e, _, _, hc⟩ := h.ints
        injection e with e1 _ _
        obtain ⟨g, o, e2, _, e3⟩ := hc i hi'
        exact ⟨g, o, by rw [e1, e2], e3⟩
      have HPC : Hid (∀ (W : World) B', W.ownsRow B' 3 1 (.slice pa ps.length pc) (Ip ps).length (I (Ip ps)) → ∀ i (hi : i < ps.length), ∃ g, pa = some ⟨g, 0, none⟩ ∧ W.cell? ⟨g, i, none⟩ = some (.int .i64 ((ps[i] : Nat) : Int))) := fun W B' h i hi' => by
        rw [Ip_len] at h
        rcases h.2 with ⟨_, h0⟩ | ⟨g, cap, cur, hv, _⟩
        · omega
        · injection hv with e1 _ e3
          subst e1 e3
          refine ⟨g, rfl, ?_⟩
          rw [h.cellAt i (by omega), I_at (by rw [Ip_len]; exact hi'), Ip_get hi']
      have HOC : Hid (∀ W, Below w.heap.size w W → ∀ q (hq : q < l.length), W.cell? ⟨gO, q, none⟩ = some (.int .i64 l[q])) := fun W h q hq => by rw [(own_below HO.out h).cellAt q (by omega), I_at hq]
      have RUN1 := Lib.hid run1
      clear run1
      go_wp2_with (at_builtin; refine wpList_runApp rfl _ _ rfl rfl rfl RUN1.out ?_)
      go_loopw [15, 80] (fun mv i wr2 => ∃ k : Nat, k ≤ M.length ∧ i = .int .i64 k ∧ Hid (wr2.ownsRow w2.heap.size 3 1 mv (movK l ((ps.zip M).take k)).length (I (movK l ((ps.zip M).take k)))) ∧ Hid (Below w2.heap.size w2 wr2)) (fun _ i _ => M.length - (intOf i).toNat)
      case atStart => exact ⟨0, Nat.zero_le _, rfl, ⟨rfl, .inl ⟨rfl, rfl⟩⟩, Below.refl _ _⟩
      case round =>
        obtain ⟨k, hk2, rfl, HN, HB3⟩ := hrel
        have HB13 := Lib.hid (bth HB2.out HB3.out (Nat.le_refl _))
        have HBW3 := Lib.hid (bth HB1.out HB13.out (Nat.le_refl _))
        have hs3 := HB3.out.size
        by_cases hkM : k < M.length
        · have hkp : k < ps.length := by have := HP3.out; omega
          obtain ⟨ge, oe, rfl, hce⟩ := HEC.out _ (HE.out.below HB3.out) k hkM
          obtain ⟨gp, rfl, hcp⟩ := HPC.out _ _ (own_below HL2.out.l3 HB3.out) k hkp
          have hql := HP4.out _ (List.getElem_mem hkp)
          have hco := HOC.out _ HBW3.out ps[k] hql
          obtain ⟨c0, c1⟩ := (P0.out.below (bth K1.out HB13.out (Nat.le_refl _)) hsa).cells
          have hzl : k < (ps.zip M).length := by rw [List.length_zip]; omega
          have hzk : (ps.zip M).take (k + 1) = (ps.zip M).take k ++ [(ps[k], M[k])] := by rw [List.take_succ_eq_append_getElem hzl, List.getElem_zip]
          have hql2 : ((ps[k] : Nat) : Int) < (l.length : Int) := by omega
          have hkp2 : (k : Int) < (ps.length : Int) := by omega
          have hml := movK_len l ((ps.zip M).take k)
          have hml2 : ((ps.zip M).take k).length ≤ 20 := by rw [List.length_take, List.length_zip]; omega
          by_cases he : l[ps[k]] = M[k]
          · have HK : Hid (movK l ((ps.zip M).take (k + 1)) = movK l ((ps.zip M).take k)) := by show _ = _; rw [hzk, movK_snoc, if_pos (by rw [getD_in hql]; exact he)]
            have ne : (l[ps[k]] != M[k]) = false := by simp [he]
            clear hzk he
            generalize l[ps[k]] = lx at *
            generalize M[k] = mx at *
            generalize ps[k] = pk at *
            go_wp2_with fail
            go_quiet (fail)
            go_wp2_with fail
            go_roundw
            case rel => exact ⟨k + 1, by omega, by go_num, by rw [HK.out]; exact HN.out, below_drewN HB3.out _⟩
            case measure => simp [intOf]; omega
          · have HK : Hid (movK l ((ps.zip M).take (k + 1)) = putL (movK l ((ps.zip M).take k)) M[k]) := by show _ = _; rw [hzk, movK_snoc, if_neg (by rw [getD_in hql]; exact he)]
            have ne : (l[ps[k]] != M[k]) = true := by simp [he]
            clear hzk he
            generalize l[ps[k]] = lx at *
            generalize M[k] = mx at *
            generalize ps[k] = pk at *
            have HPU : Hid (∀ n, Calls Try.prog 49 #[_, .int .i64 mx] (wr.drewN n) (IntsPost w2.heap.size (putL (movK l ((ps.zip M).take k)) mx) (wr.drewN n))) := fun n => l1Put_any (movK l ((ps.zip M).take k)) mx w2.heap.size _ (wr.drewN n) HN.out hs3 (by omega)
            go_wp2_with fail
            go_quiet (fail)
            go_wp2_with fail
            refine (HPU.out _).mono ?_
            rintro e w4 ⟨v4, rfl, ho4, hb4⟩
            have HO4 := Lib.hid ho4
            have HB4 := Lib.hid (bth (below_drewN HB3.out _) hb4 (Nat.le_refl _))
            clear ho4 hb4 HPU
            go_wp2_with fail
            go_roundw
            case rel => exact ⟨k + 1, by omega, by go_num, by rw [HK.out]; exact HO4.out, HB4⟩
            case measure => simp [intOf]; omega
        · obtain rfl : k = M.length := by omega
          rw [List.take_of_length_le (by rw [List.length_zip]; have := HP3.out; omega)] at HN
          have hOL : l.length ≤ 1000 := by have := HLL.out; omega
          obtain ⟨qa, qc, w4, run4, o4, hb4⟩ := lit_row l (some ⟨gO, 0, none⟩) cO wr _ rfl (HRO.out.below HBW3.out) hOL 23
          obtain ⟨gW, rfl⟩ : ∃ gW, qa = some ⟨gW, 0, none⟩ := by
            rcases o4.2 with ⟨_, h0⟩ | ⟨g, cap, cur, hv, _⟩
            · omega
            · injection hv with e1 _ _; exact ⟨g, e1⟩
          have hqc : l.length ≤ qc ∧ qc ≤ 2 ^ 63 - 1 := by obtain ⟨_, _, h, h3, h4, _⟩ := (RowV.of_own o4).ints; injection h with _ _ h5; unfold maxLen at h4; omega
          obtain ⟨hqc1, hqc2⟩ := hqc
          have hgW := o4.lt gW rfl
          have ka4 := own_below (own_below KA2.out HB3.out) hb4
          have hB4s : w1.heap.size ≤ w4.heap.size := Nat.le_trans HB13.out.size hb4.size
          obtain ⟨e2v, w5, run5, o5, g5, _, hv5⟩ := app_keep A D _ _ w1.heap.size w4 ka4 (RowV.of_own (own_below (own_below HL2.out.l2 HB3.out) hb4)) (by omega) (by omega) hB4s 23
          have HWS5 := Lib.hid (own_apartI o4 g5 (fun b h1 h2 => by have := (KA2.out.lt b h1).2; have := (o4.lt b h2).1; omega))
          have HPS5 := Lib.hid (own_apartI (own_below (own_below HL2.out.l3 HB3.out) hb4) g5 HAP0.out)
          have HMV5 := Lib.hid (own_apartI (own_below HN.out hb4) g5 (fun b h1 h2 => by have := (KA2.out.lt b h1).2; have := (HN.out.lt b h2).1; omega))
          have HB5 := Lib.hid ((bth HB13.out hb4 (Nat.le_refl _)).trans (below_own ka4 g5 hB4s))
          have HEW : Hid (∀ b, e2v.ownBlock = some b → b ≠ gW) := fun b h e => by
            rcases hv5 b h with h1 | h1
            · have := (KA2.out.lt b h1).2; omega
            · omega
          have HPW : Hid (∀ b, (Value.slice pa ps.length pc).ownBlock = some b → b ≠ gW) := fun b h e => by have := (HL2.out.l3.lt b h).2; omega
          have HMW := Lib.hid (fun b h => (HN.out.lt b h))
          rw [HGD.out] at o5
          obtain ⟨ea2, ec2, hev2⟩ := own_slice o5
          subst hev2
          have HE5 := Lib.hid o5
          have hec3 : M.length ≤ ec2 ∧ ec2 ≤ 2 ^ 63 - 1 := by obtain ⟨_, _, h, h3, h4, _⟩ := (RowV.of_own o5).ints; injection h with _ _ h5; unfold maxLen at h4; omega
          obtain ⟨hec3, hec4⟩ := hec3
          have RUN4 := Lib.hid run4
          have RUN5 := Lib.hid run5
          have hgW1 := hgW.1
          have hw12 : w1.heap.size ≤ w2.heap.size := hB2s
          obtain ⟨c0, c1⟩ := (P0.out.below (bth K1.out HB13.out (Nat.le_refl _)) hsa).cells
          obtain ⟨mva, mvc, hmvv⟩ := own_slice HN.out
          subst hmvv
          generalize hR : movK l (ps.zip M) = R at *
          have HRR := Lib.hid hR
          have hPlt := Nat.lt_of_lt_of_le hsa (Nat.le_trans hs1 HB13.out.size)
          clear hR run4 run5 o4 hb4 ka4 g5 hv5 o5 HN
          go_upto_region 25 with (at_builtin; refine wpList_runApp rfl _ _ rfl rfl rfl RUN4.out ?_)
          clear c0 c1
          go_wp2_with (at_builtin; refine wpList_runApp rfl _ _ rfl rfl rfl RUN5.out ?_)
          go_loopw [107] (fun i wz => ∃ k : Nat, k ≤ M.length ∧ i = .int .i64 k ∧ Hid (wz.ownsRow wr.heap.size 3 1 (.slice (some ⟨gW, 0, none⟩) l.length qc) l.length (I (newO l (ps.take k) (M.take k)))) ∧ Hid (w5.grownBy wz (some gW))) (fun i _ => M.length - (intOf i).toNat)
          case atStart => exact ⟨0, Nat.zero_le _, rfl, HWS5, grown_refl _ _⟩
          case round =>
            obtain ⟨k, hk3, rfl, HOZ, HGZ⟩ := hrel
            by_cases hkM : k < M.length
            · have hkp : k < ps.length := by have := HP3.out; omega
              have hgz : w5.grownBy _ (Value.slice (some ⟨gW, 0, none⟩) 0 0).ownBlock := HGZ.out
              obtain ⟨ge, oe, rfl, hce⟩ := rowv_at (RowV.of_own (own_apartI HE5.out hgz (fun b h1 h2 => HEW.out b h2 (by simpa [Value.ownBlock] using h1.symm)))) k hkM
              obtain ⟨gp, rfl, hcp⟩ := HPC.out _ _ (own_apartI HPS5.out hgz (fun b h1 h2 => HPW.out b h2 (by simpa [Value.ownBlock] using h1.symm))) k hkp
              have hql := HP4.out _ (List.getElem_mem hkp)
              have HE : Hid (newO l (ps.take (k + 1)) (M.take (k + 1)) = (newO l (ps.take k) (M.take k)).set ps[k] M[k]) := newO_snoc hkp hkM
              have hnl := newO_len (ps.take k) (M.take k) l
              generalize newO l (ps.take k) (M.take k) = lo1 at *
              have hfz := HOZ.out.frozenAt ps[k]
              have hcz : ∃ old, World.cell? _ ⟨gW, ps[k], none⟩ = some (.int .i64 old) := ⟨lo1.getD ps[k] 0, by rw [HOZ.out.cellAt ps[k] (by omega), I_at (by omega), getD_in (by omega)]⟩
              obtain ⟨old, hcz⟩ := hcz
              have hstr := HOZ.out.stored ps[k] (.int .i64 M[k])
              rw [I_set, ← HE.out] at hstr
              have HO1 := Lib.hid hstr.1
              have HG1 := Lib.hid (grown_trans HGZ.out hstr.2)
              have hql2 : ((ps[k] : Nat) : Int) < (l.length : Int) := by omega
              have hkp2 : (k : Int) < (ps.length : Int) := by omega
              clear hstr HE hnl hgz HOZ HGZ
              generalize M[k] = mx at *
              generalize ps[k] = pk at *
              go_wp2_with fail
              go_roundw
              case rel => exact ⟨k + 1, by omega, by go_num, HO1, HG1⟩
              case measure => simp [intOf]; omega
            · obtain rfl : k = M.length := by omega
              rw [List.take_of_length_le (by have := HP3.out; omega), List.take_length] at HOZ
              have hRL := newO_len ps M l
              have hgz : w5.grownBy _ (Value.slice (some ⟨gW, 0, none⟩) 0 0).ownBlock := HGZ.out
              have hbz := below_own (own_base HWS5.out (by omega : w1.heap.size ≤ _)) HGZ.out (by have := HB5.out.size; exact this)
              have HBZ := Lib.hid (HB5.out.trans hbz)
              have HMZ := Lib.hid (own_apartI HMV5.out hgz (fun b h1 h2 => by have := (HMW.out b h2).2; have e : gW = b := (by simpa [Value.ownBlock] using h1); omega))
              have hsrc := RowV.of_own HOZ.out
              rw [← hRL] at hsrc
              obtain ⟨w7, run7, o7, g7⟩ := copy_own l (newO l ps M) (some ⟨gW, 0, none⟩) qc gO cO B _ hsrc (own_below HO.out (bth HB1.out HBZ.out (Nat.le_refl _))) hRL (by omega)
              rw [hRL] at run7
              have HO7 := Lib.hid o7
              have HM7 := Lib.hid (own_apartI HMZ.out (u := .slice (some ⟨gO, 0, none⟩) 0 0) g7 (fun b h1 h2 => by have := (HMW.out b h2).1; have e : gO = b := (by simpa [Value.ownBlock] using h1); have := HBW2.out.size; omega))
              have HG7 := Lib.hid (grown_trans (below_grown (r := some gO) (bth HB1.out HBZ.out (Nat.le_refl _))) g7)
              obtain ⟨c0, c1⟩ := (P0.out.below (bth K1.out HBZ.out (Nat.le_refl _)) hsa).cells
              have hbase : w.heap.size ≤ w2.heap.size := HBW2.out.size
              clear hsrc o7 g7 hgz hbz hRL HOZ HGZ
              go_wp2_with fail
              go_ret
              exact ⟨_, rfl, by rw [HRR.out]; exact own_base HM7.out hbase, HO7.out, HG7.out⟩

end Go.Proofs.Ytnkkbleebfijgaa

/- l5Mend as AddNeed wants it; how large AddNeed's answers are. -/
namespace Go.Proofs.Ytnkkbleebfijgaa
open Go.RowKit Pth

theorem mendC : MendC := by
  intro ls l t x B gO cO nv w hst hown hG ht hx hloop
  by_cases h : pos l (x : Int) < pos l (t : Int)
  · exact l5Mend_no ls l t x B gO cO nv w hst hown hG ht hx h
  · exact l5Mend_yes ls l t x B gO cO nv w hst hown hG ht hx hloop (by omega)
theorem total_by {c : Nat} : ∀ m : List (List Int), (∀ k (hk : k < m.length), m[k].length ≤ c) → total m ≤ c * m.length := by
  intro m
  induction m with
  | nil => intro _; simp [total]
  | cons y q ih =>
    intro h
    have h0 := h 0 (by simp)
    have h1 := ih (fun k hk => by have := h (k + 1) (by simp; omega); simpa using this)
    simp only [List.getElem_cons_zero] at h0
    simp only [total, List.map_cons, List.sum_cons, List.length_cons, Nat.mul_add, Nat.mul_one] at h1 ⊢
    omega
theorem mendO_len (ls : List (List Int)) (l : List Int) (t x : Int) : (mendO ls l t x).length = l.length := by
  unfold mendO
  split
  · rfl
  · exact newO_len _ _ _
theorem add_small (ls : List (List Int)) (l : List Int) (t x : Int) : (addG ls l t x).length + total (addG ls l t x) + (addO ls l t x).length ≤ 1000 := by
  rcases h : addOk ls l t x with _ | _
  · rw [(add_no h).1, (add_no h).2.1]; simp [total]
  · rw [(add_yes h).1, (add_yes h).2.1]
    obtain ⟨hb0, hb1, _, _, _⟩ := add_parts h
    have hG := goodG_iff.1 hb0
    simp only [Bool.and_eq_true, decide_eq_true_eq] at hb1
    obtain ⟨j, rfl⟩ : ∃ j : Nat, t = j := ⟨t.toNat, by omega⟩
    have hj : j < ls.length := by omega
    have h10 : ∀ k (hk : k < ls.length), ls[k].length ≤ 10 := fun k hk => by
      have hw := (hG.each k hk).1
      have := rise_len hw.1 hw.2 (by have := hG.low; omega)
      have := hG.high
      omega
    have hs := hG.same
    have hh := hG.high
    rw [needsAt_get hj, show ((j : Int)).toNat = j by omega, mendO_len]
    have := total_by (c := 11) (ls.set j (putL ls[j] x)) (fun k hk => by
      rw [List.length_set] at hk
      rw [List.getElem_set]
      split
      · have := put_len ls[j] x; have := h10 j hj; omega
      · have := h10 k hk; omega)
    rw [List.length_set] at this ⊢
    omega
theorem add_short (ls : List (List Int)) (l : List Int) (t x : Int) : (addM ls l t x).length ≤ 1000 := by
  rcases h : addOk ls l t x with _ | _
  · rw [(add_no h).2.2]
    split
    · rename_i hp
      unfold addPre at hp
      rw [Bool.and_eq_true, Bool.and_eq_true, Bool.and_eq_true] at hp
      obtain ⟨⟨⟨hb0, hb1⟩, hb2⟩, _⟩ := hp
      have hG := goodG_iff.1 hb0
      simp only [Bool.and_eq_true, decide_eq_true_eq] at hb2
      unfold loopL
      by_cases hn : farI ls t x < 0
      · rw [if_pos hn]; simp
      · rw [if_neg hn, wayL_len]
        have := far_small (t := t) hG hb2
        have := hG.high
        omega
    · simp
  · rw [(add_yes h).2.2, sortI_len]
    obtain ⟨hb0, _, _, _, _⟩ := add_parts h
    have hG := goodG_iff.1 hb0
    have := movedL_len l (mendO ls l t x)
    have := hG.same
    have := hG.high
    omega
end Go.Proofs.Ytnkkbleebfijgaa
