/- Texts of one claim, joined in their order. -/
import Derived.Test.YtpjmdljjmknpkaaM3
import Derived.Test.YtpjmdljjmknpkaaM6

/- Walks: the laws that levels and ways are told alike, given contracts of both programs. -/
namespace Go.Proofs.Ytpjmdljjmknpkaa
open Go.RowKit Pth

set_option maxRecDepth 20000 in
set_option maxHeartbeats 8000000 in
theorem exactLevelsOf_of (ls : List (List Int)) (l : List Int) (R : List Int) (ok : Bool) (v : Value) (w : World) (hst : GraphV w v ls l) (hL : R.length ≤ 1000000)
    (hsp : ∀ W u, GraphV W u ls l → Calls Try.prog 50 #[u] W (ListOk R ok W))
    (him : ∀ W u, GraphV W u ls l → Calls Try.prog 49 #[u] W (ListOk R ok W)) :
    Calls Try.prog 11 #[v] w (YesZ w) := by
  have HST := Lib.hid hst
  have HSP := Lib.hid hsp
  have HIM := Lib.hid him
  clear hsp him
  obtain ⟨nv, ov, rfl, h1, h2⟩ := hst
  obtain ⟨an, cn, rfl, hn1, hn2, _⟩ := h1.lists
  obtain ⟨ao, co, rfl, ho1, ho2, _⟩ := h2.ints
  clear h1 h2
  unfold maxLen at hn2 ho2
  have hne : (ok != ok) = false := by cases ok <;> rfl
  obtain ⟨wa, hwa⟩ : ∃ wa, wa = w.alloc (.cells #[.slice an ls.length cn, .slice ao l.length co] 58) := ⟨_, rfl⟩
  have hsz : wa.heap.size = w.heap.size + 1 := by rw [hwa]; simp
  have P0 : Hid (Blk2 wa w.heap.size 58 (.slice an ls.length cn) (.slice ao l.length co)) := by rw [hwa]; exact Blk2.new
  have HA : Hid (Below w.heap.size w wa) := by rw [hwa]; exact (Below.refl w.heap.size w).alloc (Nat.le_refl _) _
  have hlt0 : w.heap.size < wa.heap.size := by omega
  obtain ⟨c0, c1⟩ := P0.out.cells
  have HWA := Lib.hid hwa
  have HS := Lib.hid (szGraph_any ls l 1048576 _ wa (HST.out.below HA.out) (by omega))
  have HGV : Hid (∀ W, Below wa.heap.size wa W → GraphV W (.agg #[.slice an ls.length cn, .slice ao l.length co]) ls l) := fun W h => HST.out.below (bt HA.out h)
  clear hwa
  go_enter Try.func11, Try.ntmps11
  go_wp2_with fail
  rw [← HWA.out]
  refine HS.out.mono ?_
  rintro e w1 ⟨r, rfl, hr, hb1⟩
  have K1 := Lib.hid hb1
  clear hb1 HS c0 c1
  obtain ⟨c0, c1⟩ := (P0.out.below K1.out hlt0).cells
  by_cases h0 : r < 0
  · clear hr
    go_wp2_with fail
    go_ret
    exact ⟨rfl, bt HA.out K1.out⟩
  have hl : ls.length + total ls + l.length ≤ 1100000 := by have := hr (by omega); omega
  have hl2 : ls.length + total ls + l.length ≤ 2000000 := by omega
  clear hr
  have HTO := Lib.hid (fun W (hb : GraphV W _ ls l) => toGraph_any ls l (.agg #[.slice an ls.length cn, .slice ao l.length co]) W hb hl2)
  have HEQ := Lib.hid (fun W x y (h1 : RowV W x (I R)) (h2 : RowV W y (I R)) => eqIntS_b h1 h2 (by omega) (decide_eq_true (rfl : R = R)))
  have hk1 : decide (((1 + totalG ls l : Nat) : Int) < 0) = false := decide_eq_false (by omega)
  have hk2 : decide (((1 + R.length : Nat) : Int) < 0) = false := decide_eq_false (by omega)
  have hk3 : (((1 + R.length : Nat) : Int) != ((1 + R.length : Nat) : Int)) = false := by simp
  have HMI := Lib.hid (fun B u (W : World) (h : W.ownsRow B 3 1 u R.length (I R)) => markIntS_l (l := R) (k := 1) (i := (1 : Int)) (r := ((1 + R.length : Nat) : Int)) rfl (by omega) h (by omega) (by omega))
  have HHI := Lib.hid (fun u W (h : RowV W u (I (marks ((1 : Nat) : Int) R.length))) => heldIntS_l (k := 1) (n := R.length) (i := (1 : Int)) (r := ((1 + R.length : Nat) : Int)) rfl (by omega) h (by omega) (by omega))
  have HMG := Lib.hid (fun B u (W0 W : World) (h : GraphO B W0 u ls l) (hb : Below W0.heap.size W0 W) (hB : B ≤ W0.heap.size) => markGraph_any ls l 1 B u W0 W h hb hB (by omega) (by omega))
  have hone : ((1 : Nat) : Int) = 1 := rfl
  rw [hone] at HMG HMI HHI
  clear hone
  generalize 1 + totalG ls l = k1 at *
  generalize 1 + R.length = k2 at *
  -- the reference's answer
  go_wp2_with fail
  refine (HTO.out w1 (HGV.out w1 K1.out)).mono ?_
  rintro e w2 ⟨v2, rfl, ho2', hb2⟩
  have K2 := Lib.hid (bt K1.out hb2)
  have HC2 := Lib.hid (HSP.out w2 v2 ho2'.view)
  clear hb2 ho2' c0 c1
  go_wp2_with fail
  refine HC2.out.mono ?_
  rintro e w3 ⟨v3, rfl, hw3, hb3⟩
  have K3 := Lib.hid (bt K2.out hb3)
  have HW := Lib.hid hw3
  have sa3 := K3.out.size
  clear hb3 HC2 hw3
  obtain ⟨c0, c1⟩ := (P0.out.below K3.out hlt0).cells
  -- a copy of the argument
  go_wp2_with fail
  refine (HTO.out w3 (HGV.out w3 K3.out)).mono ?_
  rintro e w4 ⟨v4, rfl, ho4, hb4⟩
  have s34 := hb4.size
  have HO4 := Lib.hid ho4
  obtain ⟨b1, d1, b2, d2, rfl⟩ := ho4.slices
  obtain ⟨wb, hwb⟩ : ∃ wb, wb = w4.alloc (.cells #[.slice b1 ls.length d1, .slice b2 l.length d2] 26) := ⟨_, rfl⟩
  have X4 : Hid (Blk2 wb w4.heap.size 26 (.slice b1 ls.length d1) (.slice b2 l.length d2)) := by rw [hwb]; exact Blk2.new
  have hAB : Below w4.heap.size w4 wb := by rw [hwb]; exact (Below.refl w4.heap.size w4).alloc (Nat.le_refl _) _
  have hsb : wb.heap.size = w4.heap.size + 1 := by rw [hwb]; simp
  have E4 := Lib.hid hAB
  have A4 := Lib.hid (bt hb4 hAB)
  have K4 := Lib.hid (bt (bt K3.out hb4) hAB)
  have HC5 := Lib.hid (HIM.out wb _ (ho4.below hAB).view)
  have HWB := Lib.hid hwb
  clear hb4 ho4 c0 c1 hwb hAB
  obtain ⟨x0, x1⟩ := X4.out.cells
  go_wp2_with fail
  rw [← HWB.out]
  -- the program's answer
  refine HC5.out.mono ?_
  rintro e w6 ⟨v6, rfl, hg6, hb6⟩
  have s6 := hb6.size
  have E6 := Lib.hid (bt E4.out hb6)
  have D6 := Lib.hid hb6
  have A6 := Lib.hid (bt A4.out hb6)
  have K6 := Lib.hid (bt K4.out hb6)
  have HG6 := Lib.hid hg6
  obtain ⟨g1, e1, rfl⟩ := own_slice hg6
  obtain ⟨g3, e3, hv3⟩ := own_slice HW.out
  subst hv3
  clear hb6 HC5 x0 x1 hg6
  go_wp2_with fail
  refine (HEQ.out w6 _ _ (RowV.of_own HG6.out) (RowV.of_own (own_below HW.out A6.out))).mono ?_
  rintro e w7 ⟨rfl, hb7⟩
  have s7 := hb7.size
  have E7 := Lib.hid (bt E6.out hb7)
  have D7 := Lib.hid (bt D6.out hb7)
  have A7 := Lib.hid (bt A6.out hb7)
  have K7 := Lib.hid (bt K6.out hb7)
  have HG7 := Lib.hid (own_below HG6.out hb7)
  clear hb7 HG6
  have hlt7 : w.heap.size < w7.heap.size := by omega
  have hlt8 : w4.heap.size < w7.heap.size := by omega
  have PD : Hid (Blk2 w7.drew w.heap.size 58 (.slice an ls.length cn) (.slice ao l.length co)) := P0.out.below (Below.drew K7.out) hlt0
  have XD : Hid (Blk2 w7.drew w4.heap.size 26 (.slice b1 ls.length d1) (.slice b2 l.length d2)) := X4.out.below (Below.drew D7.out) (by omega)
  have ks := And.intro PD.out.cells XD.out.cells
  have HX7 : Hid (GraphV w7.drew (.agg #[.slice b1 ls.length d1, .slice b2 l.length d2]) ls l) := HO4.out.view.below (Below.drew E7.out)
  have HST7 : Hid (GraphV w7.drew (.agg #[.slice an ls.length cn, .slice ao l.length co]) ls l) := HGV.out w7.drew (Below.drew K7.out)
  have HE := Lib.hid (fun W v5 (hb : GraphV W _ ls l) (hb5 : GraphV W v5 ls l) => eqGraph_any ls ls l l (.agg #[.slice b1 ls.length d1, .slice b2 l.length d2]) v5 W hb hb5 hl2)
  rw [sameG_self] at HE
  go_wp2_with fail
  -- the copy is as it was
  go_region_held3 (fun w' => (w'.cell? ⟨w.heap.size, 0, none⟩ = some (.slice an ls.length cn) ∧ w'.cell? ⟨w.heap.size, 1, none⟩ = some (.slice ao l.length co)) ∧ (w'.cell? ⟨w4.heap.size, 0, none⟩ = some (.slice b1 ls.length d1) ∧ w'.cell? ⟨w4.heap.size, 1, none⟩ = some (.slice b2 l.length d2))) (first | exact ks)
    (first
      | (go_at_call 60; refine (HTO.out _ (by exact HST7.out)).mono ?_; rintro e w7b ⟨v7, rfl, ho7, hb7⟩
         have ks := And.intro (PD.out.below hb7 hlt7).cells (XD.out.below hb7 hlt8).cells
         have HO7 := Lib.hid ho7.view
         have HXB := Lib.hid (GraphV.below (by exact HX7.out) hb7)
         have C7 := Lib.hid hb7
         clear ho7 hb7)
      | (go_at_call 61; refine (HE.out _ _ (by exact HXB.out) (by exact HO7.out)).mono ?_; rintro e w8 ⟨rfl, hb8⟩
         have C8 := Lib.hid (bt C7.out hb8)
         have ks := And.intro (PD.out.below C8.out hlt7).cells (XD.out.below C8.out hlt8).cells
         clear hb8))
  all_goals
    have s8 : w7.heap.size ≤ w8.heap.size := C8.out.size
    have E8 := Lib.hid (bt (Below.drew E7.out) C8.out)
    have A8 := Lib.hid (bt (Below.drew A7.out) C8.out)
    have K8 := Lib.hid (bt (Below.drew K7.out) C8.out)
    have HG8 := Lib.hid (own_below (w := w7.drew) (show w7.drew.ownsRow wb.heap.size 3 1 _ _ _ from HG7.out) C8.out)
    have x01 := (XD.out.below C8.out hlt8).cells
    obtain ⟨x0, x1⟩ := x01
    clear ks PD XD HX7 HST7 HO7 HXB C7 C8 HG7
    -- marks in the copy
    go_wp2_with fail
    refine (HMG.out w3.heap.size _ w4 w8 HO4.out E8.out s34).mono ?_
    rintro e w9 ⟨rfl, _, hg9⟩
    have s9 := hg9.below.size
    have A9 := Lib.hid (A8.out.trans hg9.below)
    have K9 := Lib.hid (K8.out.trans (hg9.below.mono sa3))
    have HG9 := Lib.hid (own_only HG8.out hg9 (by omega))
    clear hg9 x0 x1 HG8 A8 K8 E8
    go_wp2_with fail
    refine (HEQ.out w9 _ _ (RowV.of_own HG9.out) (RowV.of_own (own_below HW.out A9.out))).mono ?_
    rintro e w10 ⟨rfl, hb10⟩
    have s10 := hb10.size
    have A10 := Lib.hid (bt A9.out hb10)
    have K10 := Lib.hid (bt K9.out hb10)
    have HG10 := Lib.hid (own_below HG9.out hb10)
    clear hb10 HG9 A9 K9
    -- marks in the answer
    go_wp2_with fail
    refine (HMI.out wb.heap.size _ w10 HG10.out).mono ?_
    rintro e w11 ⟨rfl, ho11, hg11⟩
    have hbb := below_own HG10.out hg11 (by omega)
    have s11 := hg11.size
    have A11 := Lib.hid (A10.out.trans (hbb.mono (by omega)))
    have K11 := Lib.hid (K10.out.trans (hbb.mono (by omega)))
    have HM11 := Lib.hid ho11
    clear ho11 hg11 hbb HG10 A10 K10
    go_wp2_with fail
    refine (HHI.out _ w11 (RowV.of_own HM11.out)).mono ?_
    rintro e w12 ⟨rfl, hb12⟩
    have A12 := Lib.hid (bt A11.out hb12)
    have K12 := Lib.hid (bt K11.out hb12)
    have HM12 := Lib.hid (own_below HM11.out hb12)
    clear hb12 HM11 A11 K11
    obtain ⟨c0, c1⟩ := (P0.out.below K12.out hlt0).cells
    -- asked again
    go_wp2_with fail
    refine (HTO.out w12 (HGV.out w12 K12.out)).mono ?_
    rintro e w13 ⟨v13, rfl, ho13, hb13⟩
    have A13 := Lib.hid (bt A12.out hb13)
    have K13 := Lib.hid (bt K12.out hb13)
    have HM13 := Lib.hid (own_below HM12.out hb13)
    have HC := Lib.hid (HIM.out w13 v13 ho13.view)
    clear hb13 ho13 c0 c1 HM12 A12 K12
    go_wp2_with fail
    refine HC.out.mono ?_
    rintro e w14 ⟨v14, rfl, ho14, hb14⟩
    have A14 := Lib.hid (bt A13.out hb14)
    have K14 := Lib.hid (bt K13.out hb14)
    have HM14 := Lib.hid (own_below HM13.out hb14)
    have HV14 := Lib.hid (RowV.of_own ho14)
    obtain ⟨g14, e14, rfl⟩ := own_slice ho14
    clear hb14 ho14 HM13 A13 K13 HC
    go_wp2_with fail
    refine (HEQ.out w14 _ _ HV14.out (RowV.of_own (own_below HW.out A14.out))).mono ?_
    rintro e w15 ⟨rfl, hb15⟩
    have K15 := Lib.hid (bt K14.out hb15)
    have HM15 := Lib.hid (own_below HM14.out hb15)
    clear hb15 HM14 A14 K14 HV14
    go_wp2_with fail
    refine (HHI.out _ w15 (RowV.of_own HM15.out)).mono ?_
    rintro e w16 ⟨rfl, hb16⟩
    have K16 := Lib.hid (bt K15.out hb16)
    clear hb16
    go_wp2_with fail
    go_ret
    exact ⟨rfl, bt HA.out K16.out⟩

set_option maxRecDepth 20000 in
set_option maxHeartbeats 4000000 in
theorem exactWaysTo_of (ls : List (List Int)) (l : List Int) (s : Int) (t : Int) (p : Int) (G : Bool) (v : Value) (w : World) (hst : GraphV w v ls l)
    (hsp : ∀ W u, GraphV W u ls l → Calls Try.prog 53 #[u, .int .i64 s, .int .i64 t] W fun e w' => e = .returned (.tuple #[.int .i64 p, .bool G]) ∧ Below W.heap.size W w')
    (him : ∀ W u, GraphV W u ls l → Calls Try.prog 52 #[u, .int .i64 s, .int .i64 t] W fun e w' => e = .returned (.tuple #[.int .i64 p, .bool G]) ∧ Below W.heap.size W w') :
    Calls Try.prog 13 #[v, .int .i64 s, .int .i64 t] w (YesZ w) := by
  have HST := Lib.hid hst
  have HSP := Lib.hid hsp
  have HIM := Lib.hid him
  clear hsp him
  obtain ⟨nv, ov, rfl, h1, h2⟩ := hst
  obtain ⟨an, cn, rfl, hn1, hn2, _⟩ := h1.lists
  obtain ⟨ao, co, rfl, ho1, ho2, _⟩ := h2.ints
  clear h1 h2
  unfold maxLen at hn2 ho2
  obtain ⟨wa, hwa⟩ : ∃ wa, wa = w.alloc (.cells #[.slice an ls.length cn, .slice ao l.length co] 58) := ⟨_, rfl⟩
  have hsz : wa.heap.size = w.heap.size + 1 := by rw [hwa]; simp
  have P0 : Hid (Blk2 wa w.heap.size 58 (.slice an ls.length cn) (.slice ao l.length co)) := by rw [hwa]; exact Blk2.new
  have HA : Hid (Below w.heap.size w wa) := by rw [hwa]; exact (Below.refl w.heap.size w).alloc (Nat.le_refl _) _
  have hlt0 : w.heap.size < wa.heap.size := by omega
  obtain ⟨c0, c1⟩ := P0.out.cells
  have HWA := Lib.hid hwa
  have HS := Lib.hid (szGraph_any ls l 1048576 _ wa (HST.out.below HA.out) (by omega))
  clear hwa
  go_enter Try.func13, Try.ntmps13
  go_wp2_with fail
  rw [← HWA.out]
  refine HS.out.mono ?_
  rintro e w1 ⟨r, rfl, hr, hb1⟩
  have HB1 := Lib.hid (bt HA.out hb1)
  have P1 := Lib.hid (P0.out.below hb1 hlt0)
  have hlt1 : w.heap.size < w1.heap.size := Nat.lt_of_lt_of_le hlt0 hb1.size
  clear hb1 HS c0 c1
  obtain ⟨c0, c1⟩ := P1.out.cells
  by_cases h0 : r < 0
  · clear hr
    go_wp2_with fail
    go_ret
    exact ⟨rfl, HB1.out⟩
  · have hl : ls.length + total ls + l.length ≤ 2000000 := by have := hr (by omega); omega
    clear hr
    have HTO := Lib.hid (fun W (hb : GraphV W _ ls l) => toGraph_any ls l (.agg #[.slice an ls.length cn, .slice ao l.length co]) W hb hl)
    go_wp2_with fail
    refine (HTO.out w1 (HST.out.below HB1.out)).mono ?_
    rintro e w2 ⟨v2, rfl, ho2', hb2⟩
    have HB2 := Lib.hid (bt HB1.out hb2)
    have P2 := Lib.hid (P1.out.below hb2 hlt1)
    have hlt2 : w.heap.size < w2.heap.size := Nat.lt_of_lt_of_le hlt1 hb2.size
    have HC2 := Lib.hid (HSP.out w2 v2 ho2'.view)
    clear hb2 ho2' c0 c1
    obtain ⟨c0, c1⟩ := P2.out.cells
    go_wp2_with fail
    refine HC2.out.mono ?_
    rintro e w3 ⟨rfl, hb3⟩
    have HB3 := Lib.hid (bt HB2.out hb3)
    have P3 := Lib.hid (P2.out.below hb3 hlt2)
    have hlt3 : w.heap.size < w3.heap.size := Nat.lt_of_lt_of_le hlt2 hb3.size
    clear hb3 HC2 c0 c1
    obtain ⟨c0, c1⟩ := P3.out.cells
    go_wp2_with fail
    refine (HTO.out w3 (HST.out.below HB3.out)).mono ?_
    rintro e w4 ⟨v4, rfl, ho4, hb4⟩
    have HB4 := Lib.hid (bt HB3.out hb4)
    have P4 := Lib.hid (P3.out.below hb4 hlt3)
    have hlt4 : w.heap.size < w4.heap.size := Nat.lt_of_lt_of_le hlt3 hb4.size
    have HO4 := Lib.hid ho4.view
    obtain ⟨b1, d1, b2, d2, rfl⟩ := ho4.slices
    obtain ⟨wb, hwb⟩ : ∃ wb, wb = w4.alloc (.cells #[.slice b1 ls.length d1, .slice b2 l.length d2] 26) := ⟨_, rfl⟩
    have X4 : Hid (Blk2 wb w4.heap.size 26 (.slice b1 ls.length d1) (.slice b2 l.length d2)) := by rw [hwb]; exact Blk2.new
    have HBB := Lib.hid (show Below w.heap.size w wb by rw [hwb]; exact HB4.out.alloc HB4.out.size _)
    have HAB : Hid (Below w4.heap.size w4 wb) := by rw [hwb]; exact (Below.refl w4.heap.size w4).alloc (Nat.le_refl _) _
    have P5 := Lib.hid (P4.out.below HAB.out hlt4)
    have hsb : wb.heap.size = w4.heap.size + 1 := by rw [hwb]; simp
    have HC5 := Lib.hid (HIM.out wb _ (HO4.out.below HAB.out))
    have HWB := Lib.hid hwb
    clear hb4 ho4 c0 c1 hwb
    obtain ⟨c0, c1⟩ := P5.out.cells
    obtain ⟨x0, x1⟩ := X4.out.cells
    go_wp2_with fail
    rw [← HWB.out]
    refine HC5.out.mono ?_
    rintro e w6 ⟨rfl, hb6⟩
    have HB6 := Lib.hid (bt HBB.out hb6)
    have P6 := Lib.hid (P5.out.below hb6 (by omega))
    have X6 := Lib.hid (X4.out.below hb6 (by omega))
    have HO6 := Lib.hid ((HO4.out.below HAB.out).below hb6)
    have hlt6 : w4.heap.size < w6.heap.size := by have := hb6.size; omega
    have hlt7 : w.heap.size < w6.heap.size := by omega
    clear hb6 HC5 c0 c1 x0 x1
    have ks := And.intro P6.out.cells X6.out.cells
    have PD : Hid (Blk2 w6.drew w.heap.size 58 (.slice an ls.length cn) (.slice ao l.length co)) := P6.out
    have XD : Hid (Blk2 w6.drew w4.heap.size 26 (.slice b1 ls.length d1) (.slice b2 l.length d2)) := X6.out
    have hne : (G != G) = false := by cases G <;> rfl
    have hnp : (p != p) = false := by simp
    have HST6 := Lib.hid (HST.out.below HB6.out)
    have HE := Lib.hid (fun W v5 (hb : GraphV W _ ls l) (hb5 : GraphV W v5 ls l) => eqGraph_any ls ls l l (.agg #[.slice b1 ls.length d1, .slice b2 l.length d2]) v5 W hb hb5 hl)
    rw [sameG_self] at HE
    go_wp2_with fail
    go_region_held3 (fun w' => (w'.cell? ⟨w.heap.size, 0, none⟩ = some (.slice an ls.length cn) ∧ w'.cell? ⟨w.heap.size, 1, none⟩ = some (.slice ao l.length co)) ∧ (w'.cell? ⟨w4.heap.size, 0, none⟩ = some (.slice b1 ls.length d1) ∧ w'.cell? ⟨w4.heap.size, 1, none⟩ = some (.slice b2 l.length d2))) (first | exact ks)
      (first
        | (go_at_call 60; refine (HTO.out _ (by exact HST6.out)).mono ?_; rintro e w7 ⟨v7, rfl, ho7, hb7⟩
           have ks := And.intro (PD.out.below hb7 hlt7).cells (XD.out.below hb7 hlt6).cells
           have HO7 := Lib.hid ho7.view
           have HX7 := Lib.hid (GraphV.below (by exact HO6.out) hb7)
           have HB7 := Lib.hid (bt (Below.drew HB6.out) hb7)
           have C7 := Lib.hid hb7
           clear ho7 hb7)
        | (go_at_call 61; refine (HE.out _ _ (by exact HX7.out) (by exact HO7.out)).mono ?_; rintro e w8 ⟨rfl, hb8⟩
           have HB8 := Lib.hid (bt HB7.out hb8)
           have C8 := Lib.hid (bt C7.out hb8)
           have ks := And.intro (PD.out.below C8.out hlt7).cells (XD.out.below C8.out hlt6).cells
           clear hb8))
    all_goals
      go_wp2_with fail
      go_ret
      exact ⟨rfl, HB8.out⟩

end Go.Proofs.Ytpjmdljjmknpkaa
