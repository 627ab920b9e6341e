/- Texts of one claim, joined in their order. -/
import Derived.Test.YtoahfhidekmodaaGreatDoorM8
import Derived.Test.YtoahfhidekmodaaGreatDoorM7

/- Walks: the laws that what is staged and what is discarded is told alike, and owns its memory, given contracts of both programs. -/
namespace Go.Proofs.YtoahfhidekmodaaGreatDoor
open Go.RowKit Pth

set_option maxRecDepth 20000 in
set_option maxHeartbeats 16000000 in
theorem exactDiscard_of (s : StoreT) (t : StoreT) (ok : Bool) (v : Value) (w : World) (hst : StoreV w v s) (hx : Fits s) (hm : MaxAt w) (ht : t.files.length + t.staged.length + t.gone.length ≤ 1000)
    (hsp : ∀ W u, StoreV W u s → Calls Tryz.prog 29 #[u] W (StoreLOk t ok W))
    (him : ∀ W u, StoreV W u s → MaxAt W → Calls Tryz.prog 18 #[u] W (StoreBOk t ok W)) :
    Calls Tryz.prog 8 #[v] w (YesP w) := by
  have HST := Lib.hid hst
  have HM := Lib.hid hm
  have HSP := Lib.hid hsp
  have HIM := Lib.hid him
  clear hsp him
  obtain ⟨vf, vs, vg, rfl, h1, h2, h3⟩ := hst
  obtain ⟨af, cf, rfl, hf1, hf2, _⟩ := h1.files
  obtain ⟨a2, cs, rfl, hs1, hs2, _⟩ := h2.files
  obtain ⟨ag, cg, rfl, hg1, hg2, _⟩ := h3.texts
  clear h1 h2 h3 hm
  unfold maxLen at hf2 hs2 hg2
  obtain ⟨wa, hwa⟩ : ∃ wa, wa = w.alloc (.cells #[.slice af s.files.length cf, .slice a2 s.staged.length cs, .slice ag s.gone.length cg] 50) := ⟨_, rfl⟩
  have hsz : wa.heap.size = w.heap.size + 1 := by rw [hwa]; simp
  have P0 : Hid (Blk3 wa w.heap.size 50 (.slice af s.files.length cf) (.slice a2 s.staged.length cs) (.slice ag s.gone.length cg)) := by rw [hwa]; exact Blk3.new
  have HA : Hid (Below w.heap.size w wa) := by rw [hwa]; exact (Below.refl w.heap.size w).alloc (Nat.le_refl _) _
  obtain ⟨c0, c1, c2⟩ := P0.out.cells
  have HWA := Lib.hid hwa
  have HS := Lib.hid (szStore_any s 1048576 _ wa (HST.out.below HA.out) hx (by omega))
  clear hwa hx
  go_enter Tryz.func8, Tryz.ntmps8
  go_wp2_with fail
  rw [← HWA.out]
  refine HS.out.mono ?_
  rintro e w1 ⟨r, rfl, hr, hb1⟩
  have HB1 := Lib.hid (bth HA.out hb1)
  have P1 := Lib.hid (P0.out.below hb1 (by omega))
  have z1 : w.heap.size < w1.heap.size := by have := hb1.size; omega
  clear hb1 HS c0 c1 c2
  obtain ⟨c0, c1, c2⟩ := P1.out.cells
  by_cases h0 : r < 0
  · clear hr
    go_wp2_with fail
    go_ret
    exact ⟨rfl, HB1.out⟩
  · obtain ⟨hl1, hl2, hl3⟩ := (hr (by omega)).small (by omega)
    have hls : s.files.length + s.staged.length + s.gone.length ≤ 1200000 := by have := (hr (by omega)).1; omega
    clear hr P0 HA
    have HTO := Lib.hid (fun W (hb : StoreV W (.agg #[.slice af s.files.length cf, .slice a2 s.staged.length cs, .slice ag s.gone.length cg]) s) => toStore_any s (.agg #[.slice af s.files.length cf, .slice a2 s.staged.length cs, .slice ag s.gone.length cg]) W hb hl1 hl2 hl3)
    have HEQ := Lib.hid (fun W u u' (h : StoreV W u t) (h' : StoreV W u' t) => eqStore_any t t u u' W h h' (by omega) (by omega) (by omega))
    rw [sameS_self] at HEQ
    have HES := Lib.hid (fun W u u' (h : StoreV W u s) (h' : StoreV W u' s) => eqStore_any s s u u' W h h' hl1 hl2 hl3)
    rw [sameS_self] at HES
    have hm1 : decide (((sumS 1 s : Nat) : Int) < 0) = false := decide_eq_false (by omega)
    have hm2 : decide (((sumS 1 t : Nat) : Int) < 0) = false := decide_eq_false (by omega)
    have hm3 : (((sumS 1 t : Nat) : Int) != ((sumS 1 t : Nat) : Int)) = false := by simp
    have HMS := Lib.hid (fun B u W (h : StoreO B W u s) => markStore_any s 1 B u W h hls (by omega) (by omega))
    have HMT := Lib.hid (fun B u W (h : StoreO B W u t) => markStore_any t 1 B u W h (by omega) (by omega) (by omega))
    have HHT := Lib.hid (fun u W (h : StoreV W u (marksS 1 t)) => heldStore_any t 1 u W h (by omega) (by omega) (by omega))
    unfold MarkedS at HMS HMT
    generalize sumS 1 s = k1 at hm1 HMS
    generalize sumS 1 t = k2 at hm2 hm3 HMT HHT
    have hok : (ok != ok) = false := by cases ok <;> rfl
    have hone : ((1 : Nat) : Int) = 1 := rfl
    rw [hone] at HMS HMT HHT
    clear hone
    -- the reference's answer
    go_wp2_with fail
    refine (HTO.out w1 (HST.out.below HB1.out)).mono ?_
    rintro e w2 ⟨v2, rfl, ho2, hb2⟩
    have HB2 := Lib.hid (bth HB1.out hb2)
    have P2 := Lib.hid (P1.out.below hb2 z1)
    have z2 := Nat.lt_of_lt_of_le z1 hb2.size
    have HC := Lib.hid (HSP.out w2 v2 ho2.view)
    clear hb2 ho2 c0 c1 c2 P1 HSP
    go_wp2_with fail
    refine HC.out.mono ?_
    rintro e w3 ⟨v3, rfl, ho3, hb3⟩
    have HV3 := Lib.hid ho3.view
    have HB3 := Lib.hid (bth HB2.out hb3)
    have P3 := Lib.hid (P2.out.below hb3 z2)
    have z3 := Nat.lt_of_lt_of_le z2 hb3.size
    obtain ⟨b1, d1, b2, d2, b3, d3, rfl⟩ := ho3.slices
    obtain ⟨w4, hw4⟩ : ∃ w4, w4 = w3.alloc (.cells #[.slice b1 t.files.length d1, .slice b2 t.staged.length d2, .slice b3 t.gone.length d3] 26) := ⟨_, rfl⟩
    have hA4 : Below w3.heap.size w3 w4 := by rw [hw4]; exact (Below.refl w3.heap.size w3).alloc (Nat.le_refl _) _
    have A4 := Lib.hid hA4
    have W4 : Hid (Blk3 w4 w3.heap.size 26 (.slice b1 t.files.length d1) (.slice b2 t.staged.length d2) (.slice b3 t.gone.length d3)) := by rw [hw4]; exact Blk3.new
    have s4 : w4.heap.size = w3.heap.size + 1 := by rw [hw4]; simp
    have HB4 := Lib.hid (bth HB3.out hA4)
    have P4 := Lib.hid (P3.out.below hA4 z3)
    have HW4 := Lib.hid hw4
    obtain ⟨c0, c1, c2⟩ := P3.out.cells
    clear hb3 ho3 hA4 hw4 HC P2 P3
    go_wp2_with fail
    rw [← HW4.out]
    -- a copy of the argument
    refine (HTO.out w4 (HST.out.below HB4.out)).mono ?_
    rintro e w5 ⟨v5, rfl, ho5, hb5⟩
    have HO5 := Lib.hid ho5
    have HB5 := Lib.hid (bth HB4.out hb5)
    have P5 := Lib.hid (P4.out.below hb5 (by omega))
    have W5 := Lib.hid (W4.out.below hb5 (by omega))
    have A5 := Lib.hid (bth A4.out hb5)
    obtain ⟨x1, y1, x2, y2, x3, y3, rfl⟩ := ho5.slices
    have HX5 := Lib.hid (fun k h => (ho5.lt (k := k) h).2)
    obtain ⟨w6, hw6⟩ : ∃ w6, w6 = w5.alloc (.cells #[.slice x1 s.files.length y1, .slice x2 s.staged.length y2, .slice x3 s.gone.length y3] 26) := ⟨_, rfl⟩
    have hA6 : Below w5.heap.size w5 w6 := by rw [hw6]; exact (Below.refl w5.heap.size w5).alloc (Nat.le_refl _) _
    have X6 : Hid (Blk3 w6 w5.heap.size 26 (.slice x1 s.files.length y1) (.slice x2 s.staged.length y2) (.slice x3 s.gone.length y3)) := by rw [hw6]; exact Blk3.new
    have s6 : w6.heap.size = w5.heap.size + 1 := by rw [hw6]; simp
    have s5 := hb5.size
    have HB6 := Lib.hid (bth HB5.out hA6)
    have P6 := Lib.hid (P5.out.below hA6 (by omega))
    have W6 := Lib.hid (W5.out.below hA6 (by omega))
    have A6 := Lib.hid (bth A5.out hA6)
    have HO6 := Lib.hid (HO5.out.below hA6)
    have HC := Lib.hid (HIM.out w6 _ HO6.out.view (HM.out.below HB6.out))
    have HW6 := Lib.hid hw6
    clear hb5 ho5 hA6 hw6 c0 c1 c2 P4 P5 W4 W5 HO5 A5 HW4
    go_wp2_with fail
    rw [← HW6.out]
    -- the program's answer
    refine HC.out.mono ?_
    rintro e w7 ⟨v7, rfl, ho7, hb7⟩
    have s7 := hb7.size
    have HB7 := Lib.hid (bth HB6.out hb7)
    have P7 := Lib.hid (P6.out.below hb7 (by omega))
    have W7 := Lib.hid (W6.out.below hb7 (by omega))
    have X7 := Lib.hid (X6.out.below hb7 (by omega))
    have A7 := Lib.hid (bth A6.out hb7)
    have HO7 := Lib.hid (HO6.out.below hb7)
    have HG7 := Lib.hid ho7
    obtain ⟨g1, e1, g2, e2, g3, e3, rfl⟩ := ho7.slices
    have HX7 := Lib.hid (fun k h => (ho7.lt (k := k) h).2)
    obtain ⟨w8, hw8⟩ : ∃ w8, w8 = w7.alloc (.cells #[.slice g1 t.files.length e1, .slice g2 t.staged.length e2, .slice g3 t.gone.length e3] 26) := ⟨_, rfl⟩
    have hA8 : Below w7.heap.size w7 w8 := by rw [hw8]; exact (Below.refl w7.heap.size w7).alloc (Nat.le_refl _) _
    have G8 : Hid (Blk3 w8 w7.heap.size 26 (.slice g1 t.files.length e1) (.slice g2 t.staged.length e2) (.slice g3 t.gone.length e3)) := by rw [hw8]; exact Blk3.new
    have s8 : w8.heap.size = w7.heap.size + 1 := by rw [hw8]; simp
    have HB8 := Lib.hid (bth HB7.out hA8)
    have P8 := Lib.hid (P7.out.below hA8 (by omega))
    have W8 := Lib.hid (W7.out.below hA8 (by omega))
    have X8 := Lib.hid (X7.out.below hA8 (by omega))
    have A8 := Lib.hid (bth A7.out hA8)
    have HO8 := Lib.hid (HO7.out.below hA8)
    have HG8 := Lib.hid (HG7.out.below hA8)
    have HW8 := Lib.hid hw8
    obtain ⟨c3, c4, c5⟩ := W7.out.cells
    clear hb7 ho7 hA8 hw8 P6 P7 W6 W7 X6 X7 HO6 HO7 HG7 A6 A7 HC HW6
    have z7 : w3.heap.size < w7.heap.size := by omega
    go_wp2_with fail
    rw [← HW8.out]
    refine (HEQ.out w8 _ _ HG8.out.view (HV3.out.below A8.out)).mono ?_
    rintro e w9 ⟨rfl, hb9⟩
    have s9 := hb9.size
    have hb9d : Below w8.heap.size w8 w9.drew := Below.drew hb9
    have HB9 : Hid (Below w.heap.size w w9.drew) := bth HB8.out hb9d
    have P9 : Hid (Blk3 w9.drew w.heap.size 50 (.slice af s.files.length cf) (.slice a2 s.staged.length cs) (.slice ag s.gone.length cg)) := P8.out.below hb9d (show w.heap.size < w8.heap.size by omega)
    have W9 : Hid (Blk3 w9.drew w3.heap.size 26 (.slice b1 t.files.length d1) (.slice b2 t.staged.length d2) (.slice b3 t.gone.length d3)) := W8.out.below hb9d (show w3.heap.size < w8.heap.size by omega)
    have X9 : Hid (Blk3 w9.drew w5.heap.size 26 (.slice x1 s.files.length y1) (.slice x2 s.staged.length y2) (.slice x3 s.gone.length y3)) := X8.out.below hb9d (show w5.heap.size < w8.heap.size by omega)
    have G9 : Hid (Blk3 w9.drew w7.heap.size 26 (.slice g1 t.files.length e1) (.slice g2 t.staged.length e2) (.slice g3 t.gone.length e3)) := G8.out.below hb9d (show w7.heap.size < w8.heap.size by omega)
    have A9 : Hid (Below w3.heap.size w3 w9.drew) := bth A8.out hb9d
    have HO9 : Hid (StoreO w4.heap.size w9.drew (.agg #[.slice x1 s.files.length y1, .slice x2 s.staged.length y2, .slice x3 s.gone.length y3]) s) := HO8.out.below hb9d
    have HG9 : Hid (StoreO w6.heap.size w9.drew (.agg #[.slice g1 t.files.length e1, .slice g2 t.staged.length e2, .slice g3 t.gone.length e3]) t) := HG8.out.below hb9d
    have s9' : w9.drew.heap.size = w9.heap.size := rfl
    clear hb9 hb9d c3 c4 c5 P8 W8 X8 G8 HO8 HG8 A8 HW8
    have ks := And.intro P9.out.cells X9.out.cells
    go_wp2_with fail
    -- the copy is as it was
    go_region_held3 (fun w' => (w'.cell? ⟨w.heap.size, 0, none⟩ = some (.slice af s.files.length cf) ∧ w'.cell? ⟨w.heap.size, 1, none⟩ = some (.slice a2 s.staged.length cs) ∧ w'.cell? ⟨w.heap.size, 2, none⟩ = some (.slice ag s.gone.length cg)) ∧ (w'.cell? ⟨w5.heap.size, 0, none⟩ = some (.slice x1 s.files.length y1) ∧ w'.cell? ⟨w5.heap.size, 1, none⟩ = some (.slice x2 s.staged.length y2) ∧ w'.cell? ⟨w5.heap.size, 2, none⟩ = some (.slice x3 s.gone.length y3))) (first | exact ks)
      (first
        | (go_at_call 34; refine (HTO.out _ (HST.out.below HB9.out)).mono ?_; rintro e w10 ⟨v10, rfl, ho10, hb10⟩
           have ks := And.intro (P9.out.below hb10 (Nat.lt_of_lt_of_le z3 (Nat.le_trans A9.out.size (Nat.le_refl _)))).cells (X9.out.below hb10 (lt_of_block X9.out)).cells
           have HV10 := Lib.hid ho10.view
           have C10 := Lib.hid hb10
           clear ho10 hb10)
        | (go_at_call 35; refine (HES.out _ _ _ (HO9.out.view.below C10.out) HV10.out).mono ?_; rintro e w11 ⟨rfl, hb11⟩
           have C11 := Lib.hid (bth C10.out hb11)
           have ks := And.intro (P9.out.below C11.out (lt_of_block P9.out)).cells (X9.out.below C11.out (lt_of_block X9.out)).cells
           clear hb11))
    all_goals
      have s11 := C11.out.size
      have HB11 := Lib.hid (bth HB9.out C11.out)
      have P11 := Lib.hid (P9.out.below C11.out (lt_of_block P9.out))
      have W11 := Lib.hid (W9.out.below C11.out (lt_of_block W9.out))
      have X11 := Lib.hid (X9.out.below C11.out (lt_of_block X9.out))
      have G11 := Lib.hid (G9.out.below C11.out (lt_of_block G9.out))
      have A11 := Lib.hid (bth A9.out C11.out)
      have HO11 := Lib.hid (HO9.out.below C11.out)
      have HG11 := Lib.hid (HG9.out.below C11.out)
      clear ks P9 W9 X9 G9 HO9 HG9 A9 C10 C11 HV10 HB9
      obtain ⟨c0, c1, c2⟩ := X11.out.cells
      -- marks in the copy
      go_wp2_with fail
      refine (HMS.out w4.heap.size _ _ HO11.out).mono ?_
      rintro e w12 ⟨rfl, _, hg12⟩
      have C12 := Lib.hid (hg12.below HO11.out (by omega))
      have s12 := hg12.size
      have HB12 := Lib.hid (HB11.out.trans (C12.out.mono (by omega)))
      have P12 := Lib.hid (P11.out.below C12.out (by omega))
      have W12 := Lib.hid (W11.out.below C12.out (by omega))
      have A12 := Lib.hid (A11.out.trans (C12.out.mono (by omega)))
      have hin : ∀ k, OwnIn (.agg #[.slice x1 s.files.length y1, .slice x2 s.staged.length y2, .slice x3 s.gone.length y3]) k → k < w5.heap.size := HX5.out
      have G12 := Lib.hid (show Blk3 w12 w7.heap.size 26 _ _ _ from (hg12.block w7.heap.size (by omega) (fun h => by have := hin _ h; omega)).trans G11.out)
      have HG12 := Lib.hid (HG11.out.grownS hg12 (fun k h => by have := hin _ h; omega))
      clear hg12 c0 c1 c2 P11 W11 X11 G11 HO11 HG11 A11 HB11 C12 hin
      obtain ⟨c0, c1, c2⟩ := G12.out.cells
      obtain ⟨c3, c4, c5⟩ := W12.out.cells
      go_wp2_with fail
      refine (HEQ.out w12 _ _ HG12.out.view (HV3.out.below A12.out)).mono ?_
      rintro e w13 ⟨rfl, hb13⟩
      have s13 := hb13.size
      have HB13 := Lib.hid (bth HB12.out hb13)
      have P13 := Lib.hid (P12.out.below hb13 (by omega))
      have W13 := Lib.hid (W12.out.below hb13 (by omega))
      have G13 := Lib.hid (G12.out.below hb13 (by omega))
      have A13 := Lib.hid (bth A12.out hb13)
      have HG13 := Lib.hid (HG12.out.below hb13)
      clear hb13 c0 c1 c2 c3 c4 c5 P12 W12 G12 A12 HG12 HB12
      obtain ⟨c0, c1, c2⟩ := G13.out.cells
      -- marks in the answer
      go_wp2_with fail
      refine (HMT.out w6.heap.size _ _ HG13.out).mono ?_
      rintro e w14 ⟨rfl, hk14, hg14⟩
      have C14 := Lib.hid (hg14.below HG13.out (by omega))
      have s14 := hg14.size
      have HB14 := Lib.hid (HB13.out.trans (C14.out.mono (by omega)))
      have P14 := Lib.hid (P13.out.below C14.out (by omega))
      have W14 := Lib.hid (W13.out.below C14.out (by omega))
      have A14 := Lib.hid (A13.out.trans (C14.out.mono (by omega)))
      have hin : ∀ k, OwnIn (.agg #[.slice g1 t.files.length e1, .slice g2 t.staged.length e2, .slice g3 t.gone.length e3]) k → k < w7.heap.size := HX7.out
      have G14 := Lib.hid (show Blk3 w14 w7.heap.size 26 _ _ _ from (hg14.block w7.heap.size (by omega) (fun h => by have := hin _ h; omega)).trans G13.out)
      have HK14 := Lib.hid hk14
      clear hk14 hg14 c0 c1 c2 P13 W13 G13 A13 HG13 HB13 C14 hin
      obtain ⟨c0, c1, c2⟩ := G14.out.cells
      go_wp2_with fail
      refine (HHT.out _ w14 HK14.out.view).mono ?_
      rintro e w15 ⟨rfl, hb15⟩
      have s15 := hb15.size
      have HB15 := Lib.hid (bth HB14.out hb15)
      have P15 := Lib.hid (P14.out.below hb15 (by omega))
      have W15 := Lib.hid (W14.out.below hb15 (by omega))
      have G15 := Lib.hid (G14.out.below hb15 (by omega))
      have A15 := Lib.hid (bth A14.out hb15)
      have HK15 := Lib.hid (HK14.out.below hb15)
      clear hb15 c0 c1 c2 P14 W14 G14 A14 HK14 HB14
      obtain ⟨c0, c1, c2⟩ := P15.out.cells
      -- asked again
      go_wp2_with fail
      refine (HTO.out w15 (HST.out.below HB15.out)).mono ?_
      rintro e w16 ⟨v16, rfl, ho16, hb16⟩
      have s16 := hb16.size
      have HB16 := Lib.hid (bth HB15.out hb16)
      have W16 := Lib.hid (W15.out.below hb16 (by omega))
      have G16 := Lib.hid (G15.out.below hb16 (by omega))
      have A16 := Lib.hid (bth A15.out hb16)
      have HK16 := Lib.hid (HK15.out.below hb16)
      have HC := Lib.hid (HIM.out w16 v16 ho16.view (HM.out.below HB16.out))
      clear hb16 ho16 c0 c1 c2 P15 W15 G15 A15 HK15 HB15
      go_wp2_with fail
      refine HC.out.mono ?_
      rintro e w17 ⟨v17, rfl, ho17, hb17⟩
      have s17 := hb17.size
      have HB17 := Lib.hid (bth HB16.out hb17)
      have W17 := Lib.hid (W16.out.below hb17 (by omega))
      have G17 := Lib.hid (G16.out.below hb17 (by omega))
      have A17 := Lib.hid (bth A16.out hb17)
      have HK17 := Lib.hid (HK16.out.below hb17)
      have HV17 := Lib.hid ho17.view
      obtain ⟨i1, j1, i2, j2, i3, j3, rfl⟩ := ho17.slices
      obtain ⟨w18, hw18⟩ : ∃ w18, w18 = w17.alloc (.cells #[.slice i1 t.files.length j1, .slice i2 t.staged.length j2, .slice i3 t.gone.length j3] 26) := ⟨_, rfl⟩
      have hA18 : Below w17.heap.size w17 w18 := by rw [hw18]; exact (Below.refl w17.heap.size w17).alloc (Nat.le_refl _) _
      have I18 : Hid (Blk3 w18 w17.heap.size 26 (.slice i1 t.files.length j1) (.slice i2 t.staged.length j2) (.slice i3 t.gone.length j3)) := by rw [hw18]; exact Blk3.new
      have s18 : w18.heap.size = w17.heap.size + 1 := by rw [hw18]; simp
      have HB18 := Lib.hid (bth HB17.out hA18)
      have W18 := Lib.hid (W17.out.below hA18 (by omega))
      have G18 := Lib.hid (G17.out.below hA18 (by omega))
      have A18 := Lib.hid (bth A17.out hA18)
      have HK18 := Lib.hid (HK17.out.below hA18)
      have HV18 := Lib.hid (HV17.out.below hA18)
      have HW18 := Lib.hid hw18
      obtain ⟨c3, c4, c5⟩ := W17.out.cells
      clear hb17 ho17 hA18 hw18 W16 W17 G16 G17 A16 A17 HK16 HK17 HV17 HB16 HB17 HC
      have z17 : w3.heap.size < w17.heap.size := by omega
      go_wp2_with fail
      rw [← HW18.out]
      refine (HEQ.out w18 _ _ HV18.out (HV3.out.below A18.out)).mono ?_
      rintro e w19 ⟨rfl, hb19⟩
      have HB19 := Lib.hid (bth HB18.out hb19)
      have G19 := Lib.hid (G18.out.below hb19 (by omega))
      have HK19 := Lib.hid (HK18.out.below hb19)
      clear hb19 c3 c4 c5 W18 G18 A18 HK18 HV18 HB18 I18 HW18
      obtain ⟨c0, c1, c2⟩ := G19.out.cells
      go_wp2_with fail
      refine (HHT.out _ w19 HK19.out.view).mono ?_
      rintro e w20 ⟨rfl, hb20⟩
      have HB20 := Lib.hid (bth HB19.out hb20)
      clear hb20 c0 c1 c2
      go_wp2_with fail
      go_ret
      exact ⟨rfl, HB20.out⟩

set_option maxRecDepth 20000 in
set_option maxHeartbeats 16000000 in
theorem exactStageFile_of (s : StoreT) (n : List UInt8) (b : List UInt8) (t : StoreT) (ok : Bool) (v : Value) (w : World) (hst : StoreV w v s) (hx : Fits s) (hn : n.length ≤ maxLen) (hb : b.length ≤ maxLen) (hm : MaxAt w) (ht : t.files.length + t.staged.length + t.gone.length ≤ 1000)
    (hsp : ∀ W u, StoreV W u s → Calls Tryz.prog 11 #[u, .string ⟨n.toArray⟩, .string ⟨b.toArray⟩] W (StoreLOk t ok W))
    (him : ∀ W u, StoreV W u s → MaxAt W → Calls Tryz.prog 10 #[u, .string ⟨n.toArray⟩, .string ⟨b.toArray⟩] W (StoreBOk t ok W)) :
    Calls Tryz.prog 5 #[v, .string ⟨n.toArray⟩, .string ⟨b.toArray⟩] w (YesP w) := by
  have HST := Lib.hid hst
  have HM := Lib.hid hm
  have HSP := Lib.hid hsp
  have HIM := Lib.hid him
  clear hsp him
  unfold maxLen at hn
  unfold maxLen at hb
  obtain ⟨vf, vs, vg, rfl, h1, h2, h3⟩ := hst
  obtain ⟨af, cf, rfl, hf1, hf2, _⟩ := h1.files
  obtain ⟨a2, cs, rfl, hs1, hs2, _⟩ := h2.files
  obtain ⟨ag, cg, rfl, hg1, hg2, _⟩ := h3.texts
  clear h1 h2 h3 hm
  unfold maxLen at hf2 hs2 hg2
  obtain ⟨wa, hwa⟩ : ∃ wa, wa = w.alloc (.cells #[.slice af s.files.length cf, .slice a2 s.staged.length cs, .slice ag s.gone.length cg] 50) := ⟨_, rfl⟩
  have hsz : wa.heap.size = w.heap.size + 1 := by rw [hwa]; simp
  have P0 : Hid (Blk3 wa w.heap.size 50 (.slice af s.files.length cf) (.slice a2 s.staged.length cs) (.slice ag s.gone.length cg)) := by rw [hwa]; exact Blk3.new
  have HA : Hid (Below w.heap.size w wa) := by rw [hwa]; exact (Below.refl w.heap.size w).alloc (Nat.le_refl _) _
  obtain ⟨c0, c1, c2⟩ := P0.out.cells
  have HWA := Lib.hid hwa
  have HS := Lib.hid (szStore_any s 1048576 _ wa (HST.out.below HA.out) hx (by omega))
  clear hwa hx
  by_cases hbign : 1048576 < n.length
  · have hdn : decide ((n.length : Int) > 1048576) = true := decide_eq_true (by omega)
    go_enter Tryz.func5, Tryz.ntmps5
    go_wp2_with fail
    rw [← HWA.out]
    go_ret
    exact ⟨rfl, HA.out⟩
  have hdn : decide ((n.length : Int) > 1048576) = false := decide_eq_false (by omega)
  by_cases hbigb : 1048576 < b.length
  · have hdb : decide ((b.length : Int) > 1048576) = true := decide_eq_true (by omega)
    go_enter Tryz.func5, Tryz.ntmps5
    go_wp2_with fail
    rw [← HWA.out]
    go_ret
    exact ⟨rfl, HA.out⟩
  have hdb : decide ((b.length : Int) > 1048576) = false := decide_eq_false (by omega)
  go_enter Tryz.func5, Tryz.ntmps5
  go_wp2_with fail
  rw [← HWA.out]
  refine HS.out.mono ?_
  rintro e w1 ⟨r, rfl, hr, hb1⟩
  have HB1 := Lib.hid (bth HA.out hb1)
  have P1 := Lib.hid (P0.out.below hb1 (by omega))
  have z1 : w.heap.size < w1.heap.size := by have := hb1.size; omega
  clear hb1 HS c0 c1 c2
  obtain ⟨c0, c1, c2⟩ := P1.out.cells
  by_cases h0 : r < 0
  · clear hr
    go_wp2_with fail
    go_ret
    exact ⟨rfl, HB1.out⟩
  · obtain ⟨hl1, hl2, hl3⟩ := (hr (by omega)).small (by omega)
    have hls : s.files.length + s.staged.length + s.gone.length ≤ 1200000 := by have := (hr (by omega)).1; omega
    clear hr P0 HA
    have HTO := Lib.hid (fun W (hb : StoreV W (.agg #[.slice af s.files.length cf, .slice a2 s.staged.length cs, .slice ag s.gone.length cg]) s) => toStore_any s (.agg #[.slice af s.files.length cf, .slice a2 s.staged.length cs, .slice ag s.gone.length cg]) W hb hl1 hl2 hl3)
    have HEQ := Lib.hid (fun W u u' (h : StoreV W u t) (h' : StoreV W u' t) => eqStore_any t t u u' W h h' (by omega) (by omega) (by omega))
    rw [sameS_self] at HEQ
    have HES := Lib.hid (fun W u u' (h : StoreV W u s) (h' : StoreV W u' s) => eqStore_any s s u u' W h h' hl1 hl2 hl3)
    rw [sameS_self] at HES
    have hm1 : decide (((sumS 1 s : Nat) : Int) < 0) = false := decide_eq_false (by omega)
    have hm2 : decide (((sumS 1 t : Nat) : Int) < 0) = false := decide_eq_false (by omega)
    have hm3 : (((sumS 1 t : Nat) : Int) != ((sumS 1 t : Nat) : Int)) = false := by simp
    have HMS := Lib.hid (fun B u W (h : StoreO B W u s) => markStore_any s 1 B u W h hls (by omega) (by omega))
    have HMT := Lib.hid (fun B u W (h : StoreO B W u t) => markStore_any t 1 B u W h (by omega) (by omega) (by omega))
    have HHT := Lib.hid (fun u W (h : StoreV W u (marksS 1 t)) => heldStore_any t 1 u W h (by omega) (by omega) (by omega))
    unfold MarkedS at HMS HMT
    generalize sumS 1 s = k1 at hm1 HMS
    generalize sumS 1 t = k2 at hm2 hm3 HMT HHT
    have hok : (ok != ok) = false := by cases ok <;> rfl
    have hone : ((1 : Nat) : Int) = 1 := rfl
    rw [hone] at HMS HMT HHT
    clear hone
    -- the reference's answer
    go_wp2_with fail
    refine (HTO.out w1 (HST.out.below HB1.out)).mono ?_
    rintro e w2 ⟨v2, rfl, ho2, hb2⟩
    have HB2 := Lib.hid (bth HB1.out hb2)
    have P2 := Lib.hid (P1.out.below hb2 z1)
    have z2 := Nat.lt_of_lt_of_le z1 hb2.size
    have HC := Lib.hid (HSP.out w2 v2 ho2.view)
    clear hb2 ho2 c0 c1 c2 P1 HSP
    go_wp2_with fail
    refine HC.out.mono ?_
    rintro e w3 ⟨v3, rfl, ho3, hb3⟩
    have HV3 := Lib.hid ho3.view
    have HB3 := Lib.hid (bth HB2.out hb3)
    have P3 := Lib.hid (P2.out.below hb3 z2)
    have z3 := Nat.lt_of_lt_of_le z2 hb3.size
    obtain ⟨b1, d1, b2, d2, b3, d3, rfl⟩ := ho3.slices
    obtain ⟨w4, hw4⟩ : ∃ w4, w4 = w3.alloc (.cells #[.slice b1 t.files.length d1, .slice b2 t.staged.length d2, .slice b3 t.gone.length d3] 26) := ⟨_, rfl⟩
    have hA4 : Below w3.heap.size w3 w4 := by rw [hw4]; exact (Below.refl w3.heap.size w3).alloc (Nat.le_refl _) _
    have A4 := Lib.hid hA4
    have W4 : Hid (Blk3 w4 w3.heap.size 26 (.slice b1 t.files.length d1) (.slice b2 t.staged.length d2) (.slice b3 t.gone.length d3)) := by rw [hw4]; exact Blk3.new
    have s4 : w4.heap.size = w3.heap.size + 1 := by rw [hw4]; simp
    have HB4 := Lib.hid (bth HB3.out hA4)
    have P4 := Lib.hid (P3.out.below hA4 z3)
    have HW4 := Lib.hid hw4
    obtain ⟨c0, c1, c2⟩ := P3.out.cells
    clear hb3 ho3 hA4 hw4 HC P2 P3
    go_wp2_with fail
    rw [← HW4.out]
    -- a copy of the argument
    refine (HTO.out w4 (HST.out.below HB4.out)).mono ?_
    rintro e w5 ⟨v5, rfl, ho5, hb5⟩
    have HO5 := Lib.hid ho5
    have HB5 := Lib.hid (bth HB4.out hb5)
    have P5 := Lib.hid (P4.out.below hb5 (by omega))
    have W5 := Lib.hid (W4.out.below hb5 (by omega))
    have A5 := Lib.hid (bth A4.out hb5)
    obtain ⟨x1, y1, x2, y2, x3, y3, rfl⟩ := ho5.slices
    have HX5 := Lib.hid (fun k h => (ho5.lt (k := k) h).2)
    obtain ⟨w6, hw6⟩ : ∃ w6, w6 = w5.alloc (.cells #[.slice x1 s.files.length y1, .slice x2 s.staged.length y2, .slice x3 s.gone.length y3] 26) := ⟨_, rfl⟩
    have hA6 : Below w5.heap.size w5 w6 := by rw [hw6]; exact (Below.refl w5.heap.size w5).alloc (Nat.le_refl _) _
    have X6 : Hid (Blk3 w6 w5.heap.size 26 (.slice x1 s.files.length y1) (.slice x2 s.staged.length y2) (.slice x3 s.gone.length y3)) := by rw [hw6]; exact Blk3.new
    have s6 : w6.heap.size = w5.heap.size + 1 := by rw [hw6]; simp
    have s5 := hb5.size
    have HB6 := Lib.hid (bth HB5.out hA6)
    have P6 := Lib.hid (P5.out.below hA6 (by omega))
    have W6 := Lib.hid (W5.out.below hA6 (by omega))
    have A6 := Lib.hid (bth A5.out hA6)
    have HO6 := Lib.hid (HO5.out.below hA6)
    have HC := Lib.hid (HIM.out w6 _ HO6.out.view (HM.out.below HB6.out))
    have HW6 := Lib.hid hw6
    clear hb5 ho5 hA6 hw6 c0 c1 c2 P4 P5 W4 W5 HO5 A5 HW4
    go_wp2_with fail
    rw [← HW6.out]
    -- the program's answer
    refine HC.out.mono ?_
    rintro e w7 ⟨v7, rfl, ho7, hb7⟩
    have s7 := hb7.size
    have HB7 := Lib.hid (bth HB6.out hb7)
    have P7 := Lib.hid (P6.out.below hb7 (by omega))
    have W7 := Lib.hid (W6.out.below hb7 (by omega))
    have X7 := Lib.hid (X6.out.below hb7 (by omega))
    have A7 := Lib.hid (bth A6.out hb7)
    have HO7 := Lib.hid (HO6.out.below hb7)
    have HG7 := Lib.hid ho7
    obtain ⟨g1, e1, g2, e2, g3, e3, rfl⟩ := ho7.slices
    have HX7 := Lib.hid (fun k h => (ho7.lt (k := k) h).2)
    obtain ⟨w8, hw8⟩ : ∃ w8, w8 = w7.alloc (.cells #[.slice g1 t.files.length e1, .slice g2 t.staged.length e2, .slice g3 t.gone.length e3] 26) := ⟨_, rfl⟩
    have hA8 : Below w7.heap.size w7 w8 := by rw [hw8]; exact (Below.refl w7.heap.size w7).alloc (Nat.le_refl _) _
    have G8 : Hid (Blk3 w8 w7.heap.size 26 (.slice g1 t.files.length e1) (.slice g2 t.staged.length e2) (.slice g3 t.gone.length e3)) := by rw [hw8]; exact Blk3.new
    have s8 : w8.heap.size = w7.heap.size + 1 := by rw [hw8]; simp
    have HB8 := Lib.hid (bth HB7.out hA8)
    have P8 := Lib.hid (P7.out.below hA8 (by omega))
    have W8 := Lib.hid (W7.out.below hA8 (by omega))
    have X8 := Lib.hid (X7.out.below hA8 (by omega))
    have A8 := Lib.hid (bth A7.out hA8)
    have HO8 := Lib.hid (HO7.out.below hA8)
    have HG8 := Lib.hid (HG7.out.below hA8)
    have HW8 := Lib.hid hw8
    obtain ⟨c3, c4, c5⟩ := W7.out.cells
    clear hb7 ho7 hA8 hw8 P6 P7 W6 W7 X6 X7 HO6 HO7 HG7 A6 A7 HC HW6
    have z7 : w3.heap.size < w7.heap.size := by omega
    go_wp2_with fail
    rw [← HW8.out]
    refine (HEQ.out w8 _ _ HG8.out.view (HV3.out.below A8.out)).mono ?_
    rintro e w9 ⟨rfl, hb9⟩
    have s9 := hb9.size
    have hb9d : Below w8.heap.size w8 w9.drew := Below.drew hb9
    have HB9 : Hid (Below w.heap.size w w9.drew) := bth HB8.out hb9d
    have P9 : Hid (Blk3 w9.drew w.heap.size 50 (.slice af s.files.length cf) (.slice a2 s.staged.length cs) (.slice ag s.gone.length cg)) := P8.out.below hb9d (show w.heap.size < w8.heap.size by omega)
    have W9 : Hid (Blk3 w9.drew w3.heap.size 26 (.slice b1 t.files.length d1) (.slice b2 t.staged.length d2) (.slice b3 t.gone.length d3)) := W8.out.below hb9d (show w3.heap.size < w8.heap.size by omega)
    have X9 : Hid (Blk3 w9.drew w5.heap.size 26 (.slice x1 s.files.length y1) (.slice x2 s.staged.length y2) (.slice x3 s.gone.length y3)) := X8.out.below hb9d (show w5.heap.size < w8.heap.size by omega)
    have G9 : Hid (Blk3 w9.drew w7.heap.size 26 (.slice g1 t.files.length e1) (.slice g2 t.staged.length e2) (.slice g3 t.gone.length e3)) := G8.out.below hb9d (show w7.heap.size < w8.heap.size by omega)
    have A9 : Hid (Below w3.heap.size w3 w9.drew) := bth A8.out hb9d
    have HO9 : Hid (StoreO w4.heap.size w9.drew (.agg #[.slice x1 s.files.length y1, .slice x2 s.staged.length y2, .slice x3 s.gone.length y3]) s) := HO8.out.below hb9d
    have HG9 : Hid (StoreO w6.heap.size w9.drew (.agg #[.slice g1 t.files.length e1, .slice g2 t.staged.length e2, .slice g3 t.gone.length e3]) t) := HG8.out.below hb9d
    have s9' : w9.drew.heap.size = w9.heap.size := rfl
    clear hb9 hb9d c3 c4 c5 P8 W8 X8 G8 HO8 HG8 A8 HW8
    have ks := And.intro P9.out.cells X9.out.cells
    go_wp2_with fail
    -- the copy is as it was
    go_region_held3 (fun w' => (w'.cell? ⟨w.heap.size, 0, none⟩ = some (.slice af s.files.length cf) ∧ w'.cell? ⟨w.heap.size, 1, none⟩ = some (.slice a2 s.staged.length cs) ∧ w'.cell? ⟨w.heap.size, 2, none⟩ = some (.slice ag s.gone.length cg)) ∧ (w'.cell? ⟨w5.heap.size, 0, none⟩ = some (.slice x1 s.files.length y1) ∧ w'.cell? ⟨w5.heap.size, 1, none⟩ = some (.slice x2 s.staged.length y2) ∧ w'.cell? ⟨w5.heap.size, 2, none⟩ = some (.slice x3 s.gone.length y3))) (first | exact ks)
      (first
        | (go_at_call 34; refine (HTO.out _ (HST.out.below HB9.out)).mono ?_; rintro e w10 ⟨v10, rfl, ho10, hb10⟩
           have ks := And.intro (P9.out.below hb10 (Nat.lt_of_lt_of_le z3 (Nat.le_trans A9.out.size (Nat.le_refl _)))).cells (X9.out.below hb10 (lt_of_block X9.out)).cells
           have HV10 := Lib.hid ho10.view
           have C10 := Lib.hid hb10
           clear ho10 hb10)
        | (go_at_call 35; refine (HES.out _ _ _ (HO9.out.view.below C10.out) HV10.out).mono ?_; rintro e w11 ⟨rfl, hb11⟩
           have C11 := Lib.hid (bth C10.out hb11)
           have ks := And.intro (P9.out.below C11.out (lt_of_block P9.out)).cells (X9.out.below C11.out (lt_of_block X9.out)).cells
           clear hb11))
    all_goals
      have s11 := C11.out.size
      have HB11 := Lib.hid (bth HB9.out C11.out)
      have P11 := Lib.hid (P9.out.below C11.out (lt_of_block P9.out))
      have W11 := Lib.hid (W9.out.below C11.out (lt_of_block W9.out))
      have X11 := Lib.hid (X9.out.below C11.out (lt_of_block X9.out))
      have G11 := Lib.hid (G9.out.below C11.out (lt_of_block G9.out))
      have A11 := Lib.hid (bth A9.out C11.out)
      have HO11 := Lib.hid (HO9.out.below C11.out)
      have HG11 := Lib.hid (HG9.out.below C11.out)
      clear ks P9 W9 X9 G9 HO9 HG9 A9 C10 C11 HV10 HB9
      obtain ⟨c0, c1, c2⟩ := X11.out.cells
      -- marks in the copy
      go_wp2_with fail
      refine (HMS.out w4.heap.size _ _ HO11.out).mono ?_
      rintro e w12 ⟨rfl, _, hg12⟩
      have C12 := Lib.hid (hg12.below HO11.out (by omega))
      have s12 := hg12.size
      have HB12 := Lib.hid (HB11.out.trans (C12.out.mono (by omega)))
      have P12 := Lib.hid (P11.out.below C12.out (by omega))
      have W12 := Lib.hid (W11.out.below C12.out (by omega))
      have A12 := Lib.hid (A11.out.trans (C12.out.mono (by omega)))
      have hin : ∀ k, OwnIn (.agg #[.slice x1 s.files.length y1, .slice x2 s.staged.length y2, .slice x3 s.gone.length y3]) k → k < w5.heap.size := HX5.out
      have G12 := Lib.hid (show Blk3 w12 w7.heap.size 26 _ _ _ from (hg12.block w7.heap.size (by omega) (fun h => by have := hin _ h; omega)).trans G11.out)
      have HG12 := Lib.hid (HG11.out.grownS hg12 (fun k h => by have := hin _ h; omega))
      clear hg12 c0 c1 c2 P11 W11 X11 G11 HO11 HG11 A11 HB11 C12 hin
      obtain ⟨c0, c1, c2⟩ := G12.out.cells
      obtain ⟨c3, c4, c5⟩ := W12.out.cells
      go_wp2_with fail
      refine (HEQ.out w12 _ _ HG12.out.view (HV3.out.below A12.out)).mono ?_
      rintro e w13 ⟨rfl, hb13⟩
      have s13 := hb13.size
      have HB13 := Lib.hid (bth HB12.out hb13)
      have P13 := Lib.hid (P12.out.below hb13 (by omega))
      have W13 := Lib.hid (W12.out.below hb13 (by omega))
      have G13 := Lib.hid (G12.out.below hb13 (by omega))
      have A13 := Lib.hid (bth A12.out hb13)
      have HG13 := Lib.hid (HG12.out.below hb13)
      clear hb13 c0 c1 c2 c3 c4 c5 P12 W12 G12 A12 HG12 HB12
      obtain ⟨c0, c1, c2⟩ := G13.out.cells
      -- marks in the answer
      go_wp2_with fail
      refine (HMT.out w6.heap.size _ _ HG13.out).mono ?_
      rintro e w14 ⟨rfl, hk14, hg14⟩
      have C14 := Lib.hid (hg14.below HG13.out (by omega))
      have s14 := hg14.size
      have HB14 := Lib.hid (HB13.out.trans (C14.out.mono (by omega)))
      have P14 := Lib.hid (P13.out.below C14.out (by omega))
      have W14 := Lib.hid (W13.out.below C14.out (by omega))
      have A14 := Lib.hid (A13.out.trans (C14.out.mono (by omega)))
      have hin : ∀ k, OwnIn (.agg #[.slice g1 t.files.length e1, .slice g2 t.staged.length e2, .slice g3 t.gone.length e3]) k → k < w7.heap.size := HX7.out
      have G14 := Lib.hid (show Blk3 w14 w7.heap.size 26 _ _ _ from (hg14.block w7.heap.size (by omega) (fun h => by have := hin _ h; omega)).trans G13.out)
      have HK14 := Lib.hid hk14
      clear hk14 hg14 c0 c1 c2 P13 W13 G13 A13 HG13 HB13 C14 hin
      obtain ⟨c0, c1, c2⟩ := G14.out.cells
      go_wp2_with fail
      refine (HHT.out _ w14 HK14.out.view).mono ?_
      rintro e w15 ⟨rfl, hb15⟩
      have s15 := hb15.size
      have HB15 := Lib.hid (bth HB14.out hb15)
      have P15 := Lib.hid (P14.out.below hb15 (by omega))
      have W15 := Lib.hid (W14.out.below hb15 (by omega))
      have G15 := Lib.hid (G14.out.below hb15 (by omega))
      have A15 := Lib.hid (bth A14.out hb15)
      have HK15 := Lib.hid (HK14.out.below hb15)
      clear hb15 c0 c1 c2 P14 W14 G14 A14 HK14 HB14
      obtain ⟨c0, c1, c2⟩ := P15.out.cells
      -- asked again
      go_wp2_with fail
      refine (HTO.out w15 (HST.out.below HB15.out)).mono ?_
      rintro e w16 ⟨v16, rfl, ho16, hb16⟩
      have s16 := hb16.size
      have HB16 := Lib.hid (bth HB15.out hb16)
      have W16 := Lib.hid (W15.out.below hb16 (by omega))
      have G16 := Lib.hid (G15.out.below hb16 (by omega))
      have A16 := Lib.hid (bth A15.out hb16)
      have HK16 := Lib.hid (HK15.out.below hb16)
      have HC := Lib.hid (HIM.out w16 v16 ho16.view (HM.out.below HB16.out))
      clear hb16 ho16 c0 c1 c2 P15 W15 G15 A15 HK15 HB15
      go_wp2_with fail
      refine HC.out.mono ?_
      rintro e w17 ⟨v17, rfl, ho17, hb17⟩
      have s17 := hb17.size
      have HB17 := Lib.hid (bth HB16.out hb17)
      have W17 := Lib.hid (W16.out.below hb17 (by omega))
      have G17 := Lib.hid (G16.out.below hb17 (by omega))
      have A17 := Lib.hid (bth A16.out hb17)
      have HK17 := Lib.hid (HK16.out.below hb17)
      have HV17 := Lib.hid ho17.view
      obtain ⟨i1, j1, i2, j2, i3, j3, rfl⟩ := ho17.slices
      obtain ⟨w18, hw18⟩ : ∃ w18, w18 = w17.alloc (.cells #[.slice i1 t.files.length j1, .slice i2 t.staged.length j2, .slice i3 t.gone.length j3] 26) := ⟨_, rfl⟩
      have hA18 : Below w17.heap.size w17 w18 := by rw [hw18]; exact (Below.refl w17.heap.size w17).alloc (Nat.le_refl _) _
      have I18 : Hid (Blk3 w18 w17.heap.size 26 (.slice i1 t.files.length j1) (.slice i2 t.staged.length j2) (.slice i3 t.gone.length j3)) := by rw [hw18]; exact Blk3.new
      have s18 : w18.heap.size = w17.heap.size + 1 := by rw [hw18]; simp
      have HB18 := Lib.hid (bth HB17.out hA18)
      have W18 := Lib.hid (W17.out.below hA18 (by omega))
      have G18 := Lib.hid (G17.out.below hA18 (by omega))
      have A18 := Lib.hid (bth A17.out hA18)
      have HK18 := Lib.hid (HK17.out.below hA18)
      have HV18 := Lib.hid (HV17.out.below hA18)
      have HW18 := Lib.hid hw18
      obtain ⟨c3, c4, c5⟩ := W17.out.cells
      clear hb17 ho17 hA18 hw18 W16 W17 G16 G17 A16 A17 HK16 HK17 HV17 HB16 HB17 HC
      have z17 : w3.heap.size < w17.heap.size := by omega
      go_wp2_with fail
      rw [← HW18.out]
      refine (HEQ.out w18 _ _ HV18.out (HV3.out.below A18.out)).mono ?_
      rintro e w19 ⟨rfl, hb19⟩
      have HB19 := Lib.hid (bth HB18.out hb19)
      have G19 := Lib.hid (G18.out.below hb19 (by omega))
      have HK19 := Lib.hid (HK18.out.below hb19)
      clear hb19 c3 c4 c5 W18 G18 A18 HK18 HV18 HB18 I18 HW18
      obtain ⟨c0, c1, c2⟩ := G19.out.cells
      go_wp2_with fail
      refine (HHT.out _ w19 HK19.out.view).mono ?_
      rintro e w20 ⟨rfl, hb20⟩
      have HB20 := Lib.hid (bth HB19.out hb20)
      clear hb20 c0 c1 c2
      go_wp2_with fail
      go_ret
      exact ⟨rfl, HB20.out⟩

set_option maxRecDepth 20000 in
set_option maxHeartbeats 16000000 in
theorem exactStageGone_of (s : StoreT) (n : List UInt8) (t : StoreT) (ok : Bool) (v : Value) (w : World) (hst : StoreV w v s) (hx : Fits s) (hn : n.length ≤ maxLen) (hm : MaxAt w) (ht : t.files.length + t.staged.length + t.gone.length ≤ 1000)
    (hsp : ∀ W u, StoreV W u s → Calls Tryz.prog 22 #[u, .string ⟨n.toArray⟩] W (StoreLOk t ok W))
    (him : ∀ W u, StoreV W u s → MaxAt W → Calls Tryz.prog 21 #[u, .string ⟨n.toArray⟩] W (StoreBOk t ok W)) :
    Calls Tryz.prog 6 #[v, .string ⟨n.toArray⟩] w (YesP w) := by
  have HST := Lib.hid hst
  have HM := Lib.hid hm
  have HSP := Lib.hid hsp
  have HIM := Lib.hid him
  clear hsp him
  unfold maxLen at hn
  obtain ⟨vf, vs, vg, rfl, h1, h2, h3⟩ := hst
  obtain ⟨af, cf, rfl, hf1, hf2, _⟩ := h1.files
  obtain ⟨a2, cs, rfl, hs1, hs2, _⟩ := h2.files
  obtain ⟨ag, cg, rfl, hg1, hg2, _⟩ := h3.texts
  clear h1 h2 h3 hm
  unfold maxLen at hf2 hs2 hg2
  obtain ⟨wa, hwa⟩ : ∃ wa, wa = w.alloc (.cells #[.slice af s.files.length cf, .slice a2 s.staged.length cs, .slice ag s.gone.length cg] 50) := ⟨_, rfl⟩
  have hsz : wa.heap.size = w.heap.size + 1 := by rw [hwa]; simp
  have P0 : Hid (Blk3 wa w.heap.size 50 (.slice af s.files.length cf) (.slice a2 s.staged.length cs) (.slice ag s.gone.length cg)) := by rw [hwa]; exact Blk3.new
  have HA : Hid (Below w.heap.size w wa) := by rw [hwa]; exact (Below.refl w.heap.size w).alloc (Nat.le_refl _) _
  obtain ⟨c0, c1, c2⟩ := P0.out.cells
  have HWA := Lib.hid hwa
  have HS := Lib.hid (szStore_any s 1048576 _ wa (HST.out.below HA.out) hx (by omega))
  clear hwa hx
  by_cases hbign : 1048576 < n.length
  · have hdn : decide ((n.length : Int) > 1048576) = true := decide_eq_true (by omega)
    go_enter Tryz.func6, Tryz.ntmps6
    go_wp2_with fail
    rw [← HWA.out]
    go_ret
    exact ⟨rfl, HA.out⟩
  have hdn : decide ((n.length : Int) > 1048576) = false := decide_eq_false (by omega)
  go_enter Tryz.func6, Tryz.ntmps6
  go_wp2_with fail
  rw [← HWA.out]
  refine HS.out.mono ?_
  rintro e w1 ⟨r, rfl, hr, hb1⟩
  have HB1 := Lib.hid (bth HA.out hb1)
  have P1 := Lib.hid (P0.out.below hb1 (by omega))
  have z1 : w.heap.size < w1.heap.size := by have := hb1.size; omega
  clear hb1 HS c0 c1 c2
  obtain ⟨c0, c1, c2⟩ := P1.out.cells
  by_cases h0 : r < 0
  · clear hr
    go_wp2_with fail
    go_ret
    exact ⟨rfl, HB1.out⟩
  · obtain ⟨hl1, hl2, hl3⟩ := (hr (by omega)).small (by omega)
    have hls : s.files.length + s.staged.length + s.gone.length ≤ 1200000 := by have := (hr (by omega)).1; omega
    clear hr P0 HA
    have HTO := Lib.hid (fun W (hb : StoreV W (.agg #[.slice af s.files.length cf, .slice a2 s.staged.length cs, .slice ag s.gone.length cg]) s) => toStore_any s (.agg #[.slice af s.files.length cf, .slice a2 s.staged.length cs, .slice ag s.gone.length cg]) W hb hl1 hl2 hl3)
    have HEQ := Lib.hid (fun W u u' (h : StoreV W u t) (h' : StoreV W u' t) => eqStore_any t t u u' W h h' (by omega) (by omega) (by omega))
    rw [sameS_self] at HEQ
    have HES := Lib.hid (fun W u u' (h : StoreV W u s) (h' : StoreV W u' s) => eqStore_any s s u u' W h h' hl1 hl2 hl3)
    rw [sameS_self] at HES
    have hm1 : decide (((sumS 1 s : Nat) : Int) < 0) = false := decide_eq_false (by omega)
    have hm2 : decide (((sumS 1 t : Nat) : Int) < 0) = false := decide_eq_false (by omega)
    have hm3 : (((sumS 1 t : Nat) : Int) != ((sumS 1 t : Nat) : Int)) = false := by simp
    have HMS := Lib.hid (fun B u W (h : StoreO B W u s) => markStore_any s 1 B u W h hls (by omega) (by omega))
    have HMT := Lib.hid (fun B u W (h : StoreO B W u t) => markStore_any t 1 B u W h (by omega) (by omega) (by omega))
    have HHT := Lib.hid (fun u W (h : StoreV W u (marksS 1 t)) => heldStore_any t 1 u W h (by omega) (by omega) (by omega))
    unfold MarkedS at HMS HMT
    generalize sumS 1 s = k1 at hm1 HMS
    generalize sumS 1 t = k2 at hm2 hm3 HMT HHT
    have hok : (ok != ok) = false := by cases ok <;> rfl
    have hone : ((1 : Nat) : Int) = 1 := rfl
    rw [hone] at HMS HMT HHT
    clear hone
    -- the reference's answer
    go_wp2_with fail
    refine (HTO.out w1 (HST.out.below HB1.out)).mono ?_
    rintro e w2 ⟨v2, rfl, ho2, hb2⟩
    have HB2 := Lib.hid (bth HB1.out hb2)
    have P2 := Lib.hid (P1.out.below hb2 z1)
    have z2 := Nat.lt_of_lt_of_le z1 hb2.size
    have HC := Lib.hid (HSP.out w2 v2 ho2.view)
    clear hb2 ho2 c0 c1 c2 P1 HSP
    go_wp2_with fail
    refine HC.out.mono ?_
    rintro e w3 ⟨v3, rfl, ho3, hb3⟩
    have HV3 := Lib.hid ho3.view
    have HB3 := Lib.hid (bth HB2.out hb3)
    have P3 := Lib.hid (P2.out.below hb3 z2)
    have z3 := Nat.lt_of_lt_of_le z2 hb3.size
    obtain ⟨b1, d1, b2, d2, b3, d3, rfl⟩ := ho3.slices
    obtain ⟨w4, hw4⟩ : ∃ w4, w4 = w3.alloc (.cells #[.slice b1 t.files.length d1, .slice b2 t.staged.length d2, .slice b3 t.gone.length d3] 26) := ⟨_, rfl⟩
    have hA4 : Below w3.heap.size w3 w4 := by rw [hw4]; exact (Below.refl w3.heap.size w3).alloc (Nat.le_refl _) _
    have A4 := Lib.hid hA4
    have W4 : Hid (Blk3 w4 w3.heap.size 26 (.slice b1 t.files.length d1) (.slice b2 t.staged.length d2) (.slice b3 t.gone.length d3)) := by rw [hw4]; exact Blk3.new
    have s4 : w4.heap.size = w3.heap.size + 1 := by rw [hw4]; simp
    have HB4 := Lib.hid (bth HB3.out hA4)
    have P4 := Lib.hid (P3.out.below hA4 z3)
    have HW4 := Lib.hid hw4
    obtain ⟨c0, c1, c2⟩ := P3.out.cells
    clear hb3 ho3 hA4 hw4 HC P2 P3
    go_wp2_with fail
    rw [← HW4.out]
    -- a copy of the argument
    refine (HTO.out w4 (HST.out.below HB4.out)).mono ?_
    rintro e w5 ⟨v5, rfl, ho5, hb5⟩
    have HO5 := Lib.hid ho5
    have HB5 := Lib.hid (bth HB4.out hb5)
    have P5 := Lib.hid (P4.out.below hb5 (by omega))
    have W5 := Lib.hid (W4.out.below hb5 (by omega))
    have A5 := Lib.hid (bth A4.out hb5)
    obtain ⟨x1, y1, x2, y2, x3, y3, rfl⟩ := ho5.slices
    have HX5 := Lib.hid (fun k h => (ho5.lt (k := k) h).2)
    obtain ⟨w6, hw6⟩ : ∃ w6, w6 = w5.alloc (.cells #[.slice x1 s.files.length y1, .slice x2 s.staged.length y2, .slice x3 s.gone.length y3] 26) := ⟨_, rfl⟩
    have hA6 : Below w5.heap.size w5 w6 := by rw [hw6]; exact (Below.refl w5.heap.size w5).alloc (Nat.le_refl _) _
    have X6 : Hid (Blk3 w6 w5.heap.size 26 (.slice x1 s.files.length y1) (.slice x2 s.staged.length y2) (.slice x3 s.gone.length y3)) := by rw [hw6]; exact Blk3.new
    have s6 : w6.heap.size = w5.heap.size + 1 := by rw [hw6]; simp
    have s5 := hb5.size
    have HB6 := Lib.hid (bth HB5.out hA6)
    have P6 := Lib.hid (P5.out.below hA6 (by omega))
    have W6 := Lib.hid (W5.out.below hA6 (by omega))
    have A6 := Lib.hid (bth A5.out hA6)
    have HO6 := Lib.hid (HO5.out.below hA6)
    have HC := Lib.hid (HIM.out w6 _ HO6.out.view (HM.out.below HB6.out))
    have HW6 := Lib.hid hw6
    clear hb5 ho5 hA6 hw6 c0 c1 c2 P4 P5 W4 W5 HO5 A5 HW4
    go_wp2_with fail
    rw [← HW6.out]
    -- the program's answer
    refine HC.out.mono ?_
    rintro e w7 ⟨v7, rfl, ho7, hb7⟩
    have s7 := hb7.size
    have HB7 := Lib.hid (bth HB6.out hb7)
    have P7 := Lib.hid (P6.out.below hb7 (by omega))
    have W7 := Lib.hid (W6.out.below hb7 (by omega))
    have X7 := Lib.hid (X6.out.below hb7 (by omega))
    have A7 := Lib.hid (bth A6.out hb7)
    have HO7 := Lib.hid (HO6.out.below hb7)
    have HG7 := Lib.hid ho7
    obtain ⟨g1, e1, g2, e2, g3, e3, rfl⟩ := ho7.slices
    have HX7 := Lib.hid (fun k h => (ho7.lt (k := k) h).2)
    obtain ⟨w8, hw8⟩ : ∃ w8, w8 = w7.alloc (.cells #[.slice g1 t.files.length e1, .slice g2 t.staged.length e2, .slice g3 t.gone.length e3] 26) := ⟨_, rfl⟩
    have hA8 : Below w7.heap.size w7 w8 := by rw [hw8]; exact (Below.refl w7.heap.size w7).alloc (Nat.le_refl _) _
    have G8 : Hid (Blk3 w8 w7.heap.size 26 (.slice g1 t.files.length e1) (.slice g2 t.staged.length e2) (.slice g3 t.gone.length e3)) := by rw [hw8]; exact Blk3.new
    have s8 : w8.heap.size = w7.heap.size + 1 := by rw [hw8]; simp
    have HB8 := Lib.hid (bth HB7.out hA8)
    have P8 := Lib.hid (P7.out.below hA8 (by omega))
    have W8 := Lib.hid (W7.out.below hA8 (by omega))
    have X8 := Lib.hid (X7.out.below hA8 (by omega))
    have A8 := Lib.hid (bth A7.out hA8)
    have HO8 := Lib.hid (HO7.out.below hA8)
    have HG8 := Lib.hid (HG7.out.below hA8)
    have HW8 := Lib.hid hw8
    obtain ⟨c3, c4, c5⟩ := W7.out.cells
    clear hb7 ho7 hA8 hw8 P6 P7 W6 W7 X6 X7 HO6 HO7 HG7 A6 A7 HC HW6
    have z7 : w3.heap.size < w7.heap.size := by omega
    go_wp2_with fail
    rw [← HW8.out]
    refine (HEQ.out w8 _ _ HG8.out.view (HV3.out.below A8.out)).mono ?_
    rintro e w9 ⟨rfl, hb9⟩
    have s9 := hb9.size
    have hb9d : Below w8.heap.size w8 w9.drew := Below.drew hb9
    have HB9 : Hid (Below w.heap.size w w9.drew) := bth HB8.out hb9d
    have P9 : Hid (Blk3 w9.drew w.heap.size 50 (.slice af s.files.length cf) (.slice a2 s.staged.length cs) (.slice ag s.gone.length cg)) := P8.out.below hb9d (show w.heap.size < w8.heap.size by omega)
    have W9 : Hid (Blk3 w9.drew w3.heap.size 26 (.slice b1 t.files.length d1) (.slice b2 t.staged.length d2) (.slice b3 t.gone.length d3)) := W8.out.below hb9d (show w3.heap.size < w8.heap.size by omega)
    have X9 : Hid (Blk3 w9.drew w5.heap.size 26 (.slice x1 s.files.length y1) (.slice x2 s.staged.length y2) (.slice x3 s.gone.length y3)) := X8.out.below hb9d (show w5.heap.size < w8.heap.size by omega)
    have G9 : Hid (Blk3 w9.drew w7.heap.size 26 (.slice g1 t.files.length e1) (.slice g2 t.staged.length e2) (.slice g3 t.gone.length e3)) := G8.out.below hb9d (show w7.heap.size < w8.heap.size by omega)
    have A9 : Hid (Below w3.heap.size w3 w9.drew) := bth A8.out hb9d
    have HO9 : Hid (StoreO w4.heap.size w9.drew (.agg #[.slice x1 s.files.length y1, .slice x2 s.staged.length y2, .slice x3 s.gone.length y3]) s) := HO8.out.below hb9d
    have HG9 : Hid (StoreO w6.heap.size w9.drew (.agg #[.slice g1 t.files.length e1, .slice g2 t.staged.length e2, .slice g3 t.gone.length e3]) t) := HG8.out.below hb9d
    have s9' : w9.drew.heap.size = w9.heap.size := rfl
    clear hb9 hb9d c3 c4 c5 P8 W8 X8 G8 HO8 HG8 A8 HW8
    have ks := And.intro P9.out.cells X9.out.cells
    go_wp2_with fail
    -- the copy is as it was
    go_region_held3 (fun w' => (w'.cell? ⟨w.heap.size, 0, none⟩ = some (.slice af s.files.length cf) ∧ w'.cell? ⟨w.heap.size, 1, none⟩ = some (.slice a2 s.staged.length cs) ∧ w'.cell? ⟨w.heap.size, 2, none⟩ = some (.slice ag s.gone.length cg)) ∧ (w'.cell? ⟨w5.heap.size, 0, none⟩ = some (.slice x1 s.files.length y1) ∧ w'.cell? ⟨w5.heap.size, 1, none⟩ = some (.slice x2 s.staged.length y2) ∧ w'.cell? ⟨w5.heap.size, 2, none⟩ = some (.slice x3 s.gone.length y3))) (first | exact ks)
      (first
        | (go_at_call 34; refine (HTO.out _ (HST.out.below HB9.out)).mono ?_; rintro e w10 ⟨v10, rfl, ho10, hb10⟩
           have ks := And.intro (P9.out.below hb10 (Nat.lt_of_lt_of_le z3 (Nat.le_trans A9.out.size (Nat.le_refl _)))).cells (X9.out.below hb10 (lt_of_block X9.out)).cells
           have HV10 := Lib.hid ho10.view
           have C10 := Lib.hid hb10
           clear ho10 hb10)
        | (go_at_call 35; refine (HES.out _ _ _ (HO9.out.view.below C10.out) HV10.out).mono ?_; rintro e w11 ⟨rfl, hb11⟩
           have C11 := Lib.hid (bth C10.out hb11)
           have ks := And.intro (P9.out.below C11.out (lt_of_block P9.out)).cells (X9.out.below C11.out (lt_of_block X9.out)).cells
           clear hb11))
    all_goals
      have s11 := C11.out.size
      have HB11 := Lib.hid (bth HB9.out C11.out)
      have P11 := Lib.hid (P9.out.below C11.out (lt_of_block P9.out))
      have W11 := Lib.hid (W9.out.below C11.out (lt_of_block W9.out))
      have X11 := Lib.hid (X9.out.below C11.out (lt_of_block X9.out))
      have G11 := Lib.hid (G9.out.below C11.out (lt_of_block G9.out))
      have A11 := Lib.hid (bth A9.out C11.out)
      have HO11 := Lib.hid (HO9.out.below C11.out)
      have HG11 := Lib.hid (HG9.out.below C11.out)
      clear ks P9 W9 X9 G9 HO9 HG9 A9 C10 C11 HV10 HB9
      obtain ⟨c0, c1, c2⟩ := X11.out.cells
      -- marks in the copy
      go_wp2_with fail
      refine (HMS.out w4.heap.size _ _ HO11.out).mono ?_
      rintro e w12 ⟨rfl, _, hg12⟩
      have C12 := Lib.hid (hg12.below HO11.out (by omega))
      have s12 := hg12.size
      have HB12 := Lib.hid (HB11.out.trans (C12.out.mono (by omega)))
      have P12 := Lib.hid (P11.out.below C12.out (by omega))
      have W12 := Lib.hid (W11.out.below C12.out (by omega))
      have A12 := Lib.hid (A11.out.trans (C12.out.mono (by omega)))
      have hin : ∀ k, OwnIn (.agg #[.slice x1 s.files.length y1, .slice x2 s.staged.length y2, .slice x3 s.gone.length y3]) k → k < w5.heap.size := HX5.out
      have G12 := Lib.hid (show Blk3 w12 w7.heap.size 26 _ _ _ from (hg12.block w7.heap.size (by omega) (fun h => by have := hin _ h; omega)).trans G11.out)
      have HG12 := Lib.hid (HG11.out.grownS hg12 (fun k h => by have := hin _ h; omega))
      clear hg12 c0 c1 c2 P11 W11 X11 G11 HO11 HG11 A11 HB11 C12 hin
      obtain ⟨c0, c1, c2⟩ := G12.out.cells
      obtain ⟨c3, c4, c5⟩ := W12.out.cells
      go_wp2_with fail
      refine (HEQ.out w12 _ _ HG12.out.view (HV3.out.below A12.out)).mono ?_
      rintro e w13 ⟨rfl, hb13⟩
      have s13 := hb13.size
      have HB13 := Lib.hid (bth HB12.out hb13)
      have P13 := Lib.hid (P12.out.below hb13 (by omega))
      have W13 := Lib.hid (W12.out.below hb13 (by omega))
      have G13 := Lib.hid (G12.out.below hb13 (by omega))
      have A13 := Lib.hid (bth A12.out hb13)
      have HG13 := Lib.hid (HG12.out.below hb13)
      clear hb13 c0 c1 c2 c3 c4 c5 P12 W12 G12 A12 HG12 HB12
      obtain ⟨c0, c1, c2⟩ := G13.out.cells
      -- marks in the answer
      go_wp2_with fail
      refine (HMT.out w6.heap.size _ _ HG13.out).mono ?_
      rintro e w14 ⟨rfl, hk14, hg14⟩
      have C14 := Lib.hid (hg14.below HG13.out (by omega))
      have s14 := hg14.size
      have HB14 := Lib.hid (HB13.out.trans (C14.out.mono (by omega)))
      have P14 := Lib.hid (P13.out.below C14.out (by omega))
      have W14 := Lib.hid (W13.out.below C14.out (by omega))
      have A14 := Lib.hid (A13.out.trans (C14.out.mono (by omega)))
      have hin : ∀ k, OwnIn (.agg #[.slice g1 t.files.length e1, .slice g2 t.staged.length e2, .slice g3 t.gone.length e3]) k → k < w7.heap.size := HX7.out
      have G14 := Lib.hid (show Blk3 w14 w7.heap.size 26 _ _ _ from (hg14.block w7.heap.size (by omega) (fun h => by have := hin _ h; omega)).trans G13.out)
      have HK14 := Lib.hid hk14
      clear hk14 hg14 c0 c1 c2 P13 W13 G13 A13 HG13 HB13 C14 hin
      obtain ⟨c0, c1, c2⟩ := G14.out.cells
      go_wp2_with fail
      refine (HHT.out _ w14 HK14.out.view).mono ?_
      rintro e w15 ⟨rfl, hb15⟩
      have s15 := hb15.size
      have HB15 := Lib.hid (bth HB14.out hb15)
      have P15 := Lib.hid (P14.out.below hb15 (by omega))
      have W15 := Lib.hid (W14.out.below hb15 (by omega))
      have G15 := Lib.hid (G14.out.below hb15 (by omega))
      have A15 := Lib.hid (bth A14.out hb15)
      have HK15 := Lib.hid (HK14.out.below hb15)
      clear hb15 c0 c1 c2 P14 W14 G14 A14 HK14 HB14
      obtain ⟨c0, c1, c2⟩ := P15.out.cells
      -- asked again
      go_wp2_with fail
      refine (HTO.out w15 (HST.out.below HB15.out)).mono ?_
      rintro e w16 ⟨v16, rfl, ho16, hb16⟩
      have s16 := hb16.size
      have HB16 := Lib.hid (bth HB15.out hb16)
      have W16 := Lib.hid (W15.out.below hb16 (by omega))
      have G16 := Lib.hid (G15.out.below hb16 (by omega))
      have A16 := Lib.hid (bth A15.out hb16)
      have HK16 := Lib.hid (HK15.out.below hb16)
      have HC := Lib.hid (HIM.out w16 v16 ho16.view (HM.out.below HB16.out))
      clear hb16 ho16 c0 c1 c2 P15 W15 G15 A15 HK15 HB15
      go_wp2_with fail
      refine HC.out.mono ?_
      rintro e w17 ⟨v17, rfl, ho17, hb17⟩
      have s17 := hb17.size
      have HB17 := Lib.hid (bth HB16.out hb17)
      have W17 := Lib.hid (W16.out.below hb17 (by omega))
      have G17 := Lib.hid (G16.out.below hb17 (by omega))
      have A17 := Lib.hid (bth A16.out hb17)
      have HK17 := Lib.hid (HK16.out.below hb17)
      have HV17 := Lib.hid ho17.view
      obtain ⟨i1, j1, i2, j2, i3, j3, rfl⟩ := ho17.slices
      obtain ⟨w18, hw18⟩ : ∃ w18, w18 = w17.alloc (.cells #[.slice i1 t.files.length j1, .slice i2 t.staged.length j2, .slice i3 t.gone.length j3] 26) := ⟨_, rfl⟩
      have hA18 : Below w17.heap.size w17 w18 := by rw [hw18]; exact (Below.refl w17.heap.size w17).alloc (Nat.le_refl _) _
      have I18 : Hid (Blk3 w18 w17.heap.size 26 (.slice i1 t.files.length j1) (.slice i2 t.staged.length j2) (.slice i3 t.gone.length j3)) := by rw [hw18]; exact Blk3.new
      have s18 : w18.heap.size = w17.heap.size + 1 := by rw [hw18]; simp
      have HB18 := Lib.hid (bth HB17.out hA18)
      have W18 := Lib.hid (W17.out.below hA18 (by omega))
      have G18 := Lib.hid (G17.out.below hA18 (by omega))
      have A18 := Lib.hid (bth A17.out hA18)
      have HK18 := Lib.hid (HK17.out.below hA18)
      have HV18 := Lib.hid (HV17.out.below hA18)
      have HW18 := Lib.hid hw18
      obtain ⟨c3, c4, c5⟩ := W17.out.cells
      clear hb17 ho17 hA18 hw18 W16 W17 G16 G17 A16 A17 HK16 HK17 HV17 HB16 HB17 HC
      have z17 : w3.heap.size < w17.heap.size := by omega
      go_wp2_with fail
      rw [← HW18.out]
      refine (HEQ.out w18 _ _ HV18.out (HV3.out.below A18.out)).mono ?_
      rintro e w19 ⟨rfl, hb19⟩
      have HB19 := Lib.hid (bth HB18.out hb19)
      have G19 := Lib.hid (G18.out.below hb19 (by omega))
      have HK19 := Lib.hid (HK18.out.below hb19)
      clear hb19 c3 c4 c5 W18 G18 A18 HK18 HV18 HB18 I18 HW18
      obtain ⟨c0, c1, c2⟩ := G19.out.cells
      go_wp2_with fail
      refine (HHT.out _ w19 HK19.out.view).mono ?_
      rintro e w20 ⟨rfl, hb20⟩
      have HB20 := Lib.hid (bth HB19.out hb20)
      clear hb20 c0 c1 c2
      go_wp2_with fail
      go_ret
      exact ⟨rfl, HB20.out⟩

end Go.Proofs.YtoahfhidekmodaaGreatDoor

/- What is staged, as mathematics. -/
namespace Go.Proofs.YtoahfhidekmodaaGreatDoor
open Go.RowKit Pth

def stFT (s : StoreT) (n b : List UInt8) : StoreT := if goodS s = true then tellT (stageFT s n b) else noStore
def stFB (s : StoreT) (n b : List UInt8) : Bool := goodS s && goodS (stageFT s n b)
def stGT (s : StoreT) (n : List UInt8) : StoreT := if goodS s = true then tellT (stageGT s n) else noStore
def stGB (s : StoreT) (n : List UInt8) : Bool := goodS s && goodS (stageGT s n)
theorem putF_mem {l : List FileT} {f g : FileT} (h : g ∈ putF l f) : g = f ∨ g ∈ l := mem_putF h
theorem putN_mem {l : List (List UInt8)} {n g : List UInt8} (h : g ∈ putN l n) : g = n ∨ g ∈ l := by
  induction l with
  | nil => simp [putN] at h; exact .inl h
  | cons x t ih =>
    unfold putN at h
    split at h
    · rcases List.mem_cons.1 h with rfl | h
      · exact .inr (by simp)
      · rcases ih h with h | h
        · exact .inl h
        · exact .inr (by simp [h])
    · split at h
      · exact .inr h
      · rcases List.mem_cons.1 h with h | h
        · exact .inl h
        · exact .inr h
theorem stageFT_fits {s : StoreT} {n b : List UInt8} (hx : Fits s) (hn : n.length ≤ maxLen) (hb : b.length ≤ maxLen) : Fits (stageFT s n b) :=
  ⟨hx.1, fun f hf => (putF_mem hf).elim (fun e => by rw [e]; exact ⟨hn, hb⟩) (fun h => hx.2.1 f h), fun m hm => hx.2.2 m ((List.mem_filter.1 hm).1)⟩
theorem stageGT_fits {s : StoreT} {n : List UInt8} (hx : Fits s) (hn : n.length ≤ maxLen) : Fits (stageGT s n) :=
  ⟨hx.1, fun f hf => hx.2.1 f ((List.mem_filter.1 hf).1), fun m hm => (putN_mem hm).elim (fun e => by rw [e]; exact hn) (fun h => hx.2.2 m h)⟩
theorem tell_small (s : StoreT) : (tellT s).files.length + (tellT s).staged.length + (tellT s).gone.length ≤ 1000 := by
  unfold tellT
  split
  · rename_i h
    obtain ⟨l1, l2, l3⟩ := good_sizes h
    omega
  · show 0 + 0 + 0 ≤ 1000
    omega
theorem stFT_small (s : StoreT) (n b : List UInt8) : (stFT s n b).files.length + (stFT s n b).staged.length + (stFT s n b).gone.length ≤ 1000 := by
  unfold stFT
  split
  · exact tell_small _
  · show 0 + 0 + 0 ≤ 1000
    omega
theorem stGT_small (s : StoreT) (n : List UInt8) : (stGT s n).files.length + (stGT s n).staged.length + (stGT s n).gone.length ≤ 1000 := by
  unfold stGT
  split
  · exact tell_small _
  · show 0 + 0 + 0 ≤ 1000
    omega

end Go.Proofs.YtoahfhidekmodaaGreatDoor

/- Walks: what is staged (the reference). -/
namespace Go.Proofs.YtoahfhidekmodaaGreatDoor
open Go.RowKit Pth


set_option maxRecDepth 20000 in
set_option maxHeartbeats 16000000 in
theorem specStageFile_any (s : StoreT) (n b : List UInt8) (v : Value) (w : World) (hst : StoreV w v s) (hx : Fits s) (hn : n.length ≤ maxLen) (hb : b.length ≤ maxLen) :
    Calls Tryz.prog 11 #[v, .string ⟨n.toArray⟩, .string ⟨b.toArray⟩] w (StoreLOk (stFT s n b) (stFB s n b) w) := by
  have HST := Lib.hid hst
  obtain ⟨vf, vs, vg, rfl, h1, h2, h3⟩ := hst
  have H1 := Lib.hid h1
  have H2 := Lib.hid h2
  have H3 := Lib.hid h3
  obtain ⟨af, cf, rfl, _⟩ := h1.files
  obtain ⟨a2, cs, rfl, _⟩ := h2.files
  obtain ⟨ag, cg, rfl, _⟩ := h3.texts
  have HG := Lib.hid (fun W hr => specGoodStore_any s (.agg #[.slice af s.files.length cf, .slice a2 s.staged.length cs, .slice ag s.gone.length cg]) W hr hx)
  clear h1 h2 h3
  obtain ⟨wa, hwa⟩ : ∃ wa, wa = (w.alloc (.cells #[.slice af s.files.length cf, .slice a2 s.staged.length cs, .slice ag s.gone.length cg] 26)).alloc (.cells #[.slice none 0 0, .slice none 0 0, .slice none 0 0] 26) := ⟨_, rfl⟩
  have hsz : wa.heap.size = w.heap.size + 2 := by rw [hwa]; simp
  have P0 : Hid (Blk3 wa w.heap.size 26 (.slice af s.files.length cf) (.slice a2 s.staged.length cs) (.slice ag s.gone.length cg)) := by rw [hwa]; exact Blk3.new.old _
  have R0 : Hid (Blk3 wa (w.heap.size + 1) 26 (.slice none 0 0) (.slice none 0 0) (.slice none 0 0)) := by
    rw [hwa]
    have := Blk3.new (w := w.alloc (.cells #[.slice af s.files.length cf, .slice a2 s.staged.length cs, .slice ag s.gone.length cg] 26)) (t := 26) (x := .slice none 0 0) (y := .slice none 0 0) (z := .slice none 0 0)
    simpa [Hid] using this
  have HA : Hid (Below w.heap.size w wa) := by rw [hwa]; exact ((Below.refl w.heap.size w).alloc (Nat.le_refl _) _).alloc (by simp) _
  have HWA := Lib.hid hwa
  clear hwa
  obtain ⟨c0, c1, c2⟩ := P0.out.cells
  rcases eg : goodS s with _ | _
  · have HT : Hid (stFT s n b = noStore) := by rw [stFT, eg]; rfl
    have HT2 : Hid (stFB s n b = false) := by rw [stFB, eg]; rfl
    rw [HT.out, HT2.out]
    rw [eg] at HG
    clear eg hx HT HT2
    go_enter Tryz.func11, Tryz.ntmps11
    go_wp2_with fail
    rw [← HWA.out]
    refine (HG.out wa (HST.out.below HA.out)).mono ?_
    rintro e w1 ⟨rfl, hb1⟩
    have HB1 := Lib.hid hb1
    have R1 := Lib.hid (R0.out.below hb1 (by omega))
    obtain ⟨k0, k1, k2⟩ := R1.out.cells
    have z0 := R1.out.soft 0
    have z1 := R1.out.soft 1
    have z2 := R1.out.soft 2
    clear hb1
    go_wp2_with fail
    have Z := ((R1.out.set0 (.slice none 0 0)).set1 (.slice none 0 0)).set2 (.slice none 0 0)
    refine bodyPost_ret (results_cell2 rfl rfl (load_store Z.cells.1 Z.cells.2.1 Z.cells.2.2)) rfl ?_
    refine ⟨_, rfl, noStore_L _ _, ?_⟩
    have HW := HA.out.trans (HB1.out.mono HA.out.size)
    exact ((HW.setCell (p := ⟨w.heap.size + 1, 0, none⟩) (Nat.le_succ _) _).setCell (p := ⟨w.heap.size + 1, 1, none⟩) (Nat.le_succ _) _).setCell (p := ⟨w.heap.size + 1, 2, none⟩) (Nat.le_succ _) _
  · have HT : Hid (stFT s n b = tellT (stageFT s n b)) := by rw [stFT, eg]; rfl
    have HT2 : Hid (stFB s n b = goodS (stageFT s n b)) := by rw [stFB, eg]; rfl
    rw [HT.out, HT2.out]
    obtain ⟨l1, l2, l3⟩ := good_sizes eg
    have HFT : Hid (Fits (stageFT s n b)) := stageFT_fits hx hn hb
    have HTL := Lib.hid (fun W u (hr : StoreV W u (stageFT s n b)) => l3Tell_any (stageFT s n b) u W hr HFT.out)
    have HPU := Lib.hid (fun W (hr : RowF W (.slice a2 s.staged.length cs) s.staged) => l3Put_any s.staged n b (.slice a2 s.staged.length cs) W hr (by omega))
    have HDR := Lib.hid (fun W (hr : RowV W (.slice ag s.gone.length cg) (S s.gone)) => l3DropName_any s.gone n (.slice ag s.gone.length cg) W hr (by omega))
    have HMID : Hid (stageFT s n b = ⟨s.files, putF s.staged (n, b), dropN s.gone n⟩) := rfl
    generalize putF s.staged (n, b) = pf at HPU HMID
    generalize dropN s.gone n = dn at HDR HMID
    rw [HMID.out] at HTL ⊢
    generalize tellT ⟨s.files, pf, dn⟩ = t at HTL ⊢
    generalize goodS ⟨s.files, pf, dn⟩ = okk at HTL ⊢
    rw [eg] at HG
    clear eg hx HT HT2 HFT HMID
    go_enter Tryz.func11, Tryz.ntmps11
    go_wp2_with fail
    rw [← HWA.out]
    refine (HG.out wa (HST.out.below HA.out)).mono ?_
    rintro e w1 ⟨rfl, hb1⟩
    have HW1 : Hid (Below w.heap.size w w1.drew) := Below.drew (HA.out.trans (hb1.mono HA.out.size))
    have hR1 := R0.out.below hb1 (show w.heap.size + 1 < wa.heap.size by omega)
    have R1 : Hid (Blk3 w1.drew (w.heap.size + 1) 26 (.slice none 0 0) (.slice none 0 0) (.slice none 0 0)) := hR1
    have s1 : w.heap.size + 2 ≤ w1.drew.heap.size := by have := hb1.size; show _ ≤ w1.heap.size; omega
    have hks := (P0.out.below hb1 (by omega)).cells
    have ks : Hid (C3 w w1.drew (.slice af s.files.length cf) (.slice a2 s.staged.length cs) (.slice ag s.gone.length cg)) := hks
    clear hb1 c0 c1 c2 hR1 hks
    go_wp2_with fail
    go_region_held3 (fun W => W.cell? ⟨w.heap.size, 0, none⟩ = some (.slice af s.files.length cf) ∧ W.cell? ⟨w.heap.size, 1, none⟩ = some (.slice a2 s.staged.length cs) ∧ W.cell? ⟨w.heap.size, 2, none⟩ = some (.slice ag s.gone.length cg)) (first | exact ks.out | exact ks.out.set _ _ _)
      (first
        | (go_at_call 45; refine (HPU.out _ (H2.out.below HW1.out)).mono ?_; rintro e w2 ⟨v2, rfl, ho2, hb2⟩
           have HF2 := Lib.hid (RowF.of_own ho2)
           obtain ⟨p2, q2, hv2⟩ := own_sliceG ho2
           subst hv2
           have HW2 := Lib.hid (HW1.out.trans (hb2.mono HW1.out.size))
           have R2 := Lib.hid (R1.out.below hb2 (lt_of_block R1.out))
           have s2 := Nat.le_trans s1 hb2.size
           have kt := Lib.hid (ks.out.below hb2)
           clear ks
           have ks := kt
           clear kt hb2 ho2)
        | (go_at_call 46; refine (HDR.out _ (H3.out.below HW2.out)).mono ?_; rintro e w3 ⟨v3, rfl, ho3, hb3⟩
           have HF3 := Lib.hid (RowV.of_rowG (RowG.of_own ho3))
           obtain ⟨p3, q3, hv3⟩ := own_sliceG ho3
           subst hv3
           have HW3 := Lib.hid (HW2.out.trans (hb3.mono HW2.out.size))
           have R3 := Lib.hid (R2.out.below hb3 (lt_of_block R2.out))
           have s3 := Nat.le_trans s2 hb3.size
           have HF2' := Lib.hid (HF2.out.below hb3)
           have kt := Lib.hid (ks.out.below hb3)
           clear ks
           have ks := kt
           clear kt hb3 ho3)
        | (go_at_call 44; refine (HTL.out _ _ ⟨_, _, _, rfl, H1.out.below HW3.out, HF2'.out, HF3.out⟩).mono ?_; rintro e w4 ⟨v4, rfl, ho4, hb4⟩
           have HW4 := Lib.hid (HW3.out.trans (hb4.mono HW3.out.size))
           have R4 := Lib.hid (R3.out.below hb4 (lt_of_block R3.out))
           have HO4 := Lib.hid (ho4.base s3)
           obtain ⟨a3, c3, a7, c7, a11, c11, hv4⟩ := ho4.slices
           subst hv4
           obtain ⟨k0, k1, k2⟩ := R4.out.cells
           have z0 := R4.out.soft 0
           have z1 := R4.out.soft 1
           have z2 := R4.out.soft 2
           have kt := Lib.hid (ks.out.below hb4)
           clear ks
           have ks := kt
           clear kt hb4 ho4))
    all_goals
      go_wp2_with fail
      have Z := ((R4.out.set0 (.slice a3 t.files.length c3)).set1 (.slice a7 t.staged.length c7)).set2 (.slice a11 t.gone.length c11)
      refine bodyPost_ret (results_cell2 rfl rfl (load_store Z.cells.1 Z.cells.2.1 Z.cells.2.2)) rfl ?_
      have q1 : w.heap.size + 1 < w.heap.size + 2 := by omega
      refine ⟨_, rfl, (((HO4.out.set (p := ⟨w.heap.size + 1, 0, none⟩) q1 _).set (p := ⟨w.heap.size + 1, 1, none⟩) q1 _).set (p := ⟨w.heap.size + 1, 2, none⟩) q1 _).base (by omega), ?_⟩
      exact ((HW4.out.setCell (p := ⟨w.heap.size + 1, 0, none⟩) (Nat.le_succ _) _).setCell (p := ⟨w.heap.size + 1, 1, none⟩) (Nat.le_succ _) _).setCell (p := ⟨w.heap.size + 1, 2, none⟩) (Nat.le_succ _) _

set_option maxRecDepth 20000 in
set_option maxHeartbeats 16000000 in
theorem specStageGone_any (s : StoreT) (n : List UInt8) (v : Value) (w : World) (hst : StoreV w v s) (hx : Fits s) (hn : n.length ≤ maxLen) :
    Calls Tryz.prog 22 #[v, .string ⟨n.toArray⟩] w (StoreLOk (stGT s n) (stGB s n) w) := by
  have HST := Lib.hid hst
  obtain ⟨vf, vs, vg, rfl, h1, h2, h3⟩ := hst
  have H1 := Lib.hid h1
  have H2 := Lib.hid h2
  have H3 := Lib.hid h3
  obtain ⟨af, cf, rfl, _⟩ := h1.files
  obtain ⟨a2, cs, rfl, _⟩ := h2.files
  obtain ⟨ag, cg, rfl, _⟩ := h3.texts
  have HG := Lib.hid (fun W hr => specGoodStore_any s (.agg #[.slice af s.files.length cf, .slice a2 s.staged.length cs, .slice ag s.gone.length cg]) W hr hx)
  clear h1 h2 h3
  obtain ⟨wa, hwa⟩ : ∃ wa, wa = (w.alloc (.cells #[.slice af s.files.length cf, .slice a2 s.staged.length cs, .slice ag s.gone.length cg] 26)).alloc (.cells #[.slice none 0 0, .slice none 0 0, .slice none 0 0] 26) := ⟨_, rfl⟩
  have hsz : wa.heap.size = w.heap.size + 2 := by rw [hwa]; simp
  have P0 : Hid (Blk3 wa w.heap.size 26 (.slice af s.files.length cf) (.slice a2 s.staged.length cs) (.slice ag s.gone.length cg)) := by rw [hwa]; exact Blk3.new.old _
  have R0 : Hid (Blk3 wa (w.heap.size + 1) 26 (.slice none 0 0) (.slice none 0 0) (.slice none 0 0)) := by
    rw [hwa]
    have := Blk3.new (w := w.alloc (.cells #[.slice af s.files.length cf, .slice a2 s.staged.length cs, .slice ag s.gone.length cg] 26)) (t := 26) (x := .slice none 0 0) (y := .slice none 0 0) (z := .slice none 0 0)
    simpa [Hid] using this
  have HA : Hid (Below w.heap.size w wa) := by rw [hwa]; exact ((Below.refl w.heap.size w).alloc (Nat.le_refl _) _).alloc (by simp) _
  have HWA := Lib.hid hwa
  clear hwa
  obtain ⟨c0, c1, c2⟩ := P0.out.cells
  rcases eg : goodS s with _ | _
  · have HT : Hid (stGT s n = noStore) := by rw [stGT, eg]; rfl
    have HT2 : Hid (stGB s n = false) := by rw [stGB, eg]; rfl
    rw [HT.out, HT2.out]
    rw [eg] at HG
    clear eg hx HT HT2
    go_enter Tryz.func22, Tryz.ntmps22
    go_wp2_with fail
    rw [← HWA.out]
    refine (HG.out wa (HST.out.below HA.out)).mono ?_
    rintro e w1 ⟨rfl, hb1⟩
    have HB1 := Lib.hid hb1
    have R1 := Lib.hid (R0.out.below hb1 (by omega))
    obtain ⟨k0, k1, k2⟩ := R1.out.cells
    have z0 := R1.out.soft 0
    have z1 := R1.out.soft 1
    have z2 := R1.out.soft 2
    clear hb1
    go_wp2_with fail
    have Z := ((R1.out.set0 (.slice none 0 0)).set1 (.slice none 0 0)).set2 (.slice none 0 0)
    refine bodyPost_ret (results_cell2 rfl rfl (load_store Z.cells.1 Z.cells.2.1 Z.cells.2.2)) rfl ?_
    refine ⟨_, rfl, noStore_L _ _, ?_⟩
    have HW := HA.out.trans (HB1.out.mono HA.out.size)
    exact ((HW.setCell (p := ⟨w.heap.size + 1, 0, none⟩) (Nat.le_succ _) _).setCell (p := ⟨w.heap.size + 1, 1, none⟩) (Nat.le_succ _) _).setCell (p := ⟨w.heap.size + 1, 2, none⟩) (Nat.le_succ _) _
  · have HT : Hid (stGT s n = tellT (stageGT s n)) := by rw [stGT, eg]; rfl
    have HT2 : Hid (stGB s n = goodS (stageGT s n)) := by rw [stGB, eg]; rfl
    rw [HT.out, HT2.out]
    obtain ⟨l1, l2, l3⟩ := good_sizes eg
    have HFT : Hid (Fits (stageGT s n)) := stageGT_fits hx hn
    have HTL := Lib.hid (fun W u (hr : StoreV W u (stageGT s n)) => l3Tell_any (stageGT s n) u W hr HFT.out)
    have HPU := Lib.hid (fun W (hr : RowF W (.slice a2 s.staged.length cs) s.staged) => l3Drop_any s.staged n (.slice a2 s.staged.length cs) W hr (by omega))
    have HDR := Lib.hid (fun W (hr : RowV W (.slice ag s.gone.length cg) (S s.gone)) => l3PutName_any s.gone n (.slice ag s.gone.length cg) W hr (by omega))
    have HMID : Hid (stageGT s n = ⟨s.files, dropF s.staged n, putN s.gone n⟩) := rfl
    generalize dropF s.staged n = pf at HPU HMID
    generalize putN s.gone n = dn at HDR HMID
    rw [HMID.out] at HTL ⊢
    generalize tellT ⟨s.files, pf, dn⟩ = t at HTL ⊢
    generalize goodS ⟨s.files, pf, dn⟩ = okk at HTL ⊢
    rw [eg] at HG
    clear eg hx HT HT2 HFT HMID
    go_enter Tryz.func22, Tryz.ntmps22
    go_wp2_with fail
    rw [← HWA.out]
    refine (HG.out wa (HST.out.below HA.out)).mono ?_
    rintro e w1 ⟨rfl, hb1⟩
    have HW1 : Hid (Below w.heap.size w w1.drew) := Below.drew (HA.out.trans (hb1.mono HA.out.size))
    have hR1 := R0.out.below hb1 (show w.heap.size + 1 < wa.heap.size by omega)
    have R1 : Hid (Blk3 w1.drew (w.heap.size + 1) 26 (.slice none 0 0) (.slice none 0 0) (.slice none 0 0)) := hR1
    have s1 : w.heap.size + 2 ≤ w1.drew.heap.size := by have := hb1.size; show _ ≤ w1.heap.size; omega
    have hks := (P0.out.below hb1 (by omega)).cells
    have ks : Hid (C3 w w1.drew (.slice af s.files.length cf) (.slice a2 s.staged.length cs) (.slice ag s.gone.length cg)) := hks
    clear hb1 c0 c1 c2 hR1 hks
    go_wp2_with fail
    go_region_held3 (fun W => W.cell? ⟨w.heap.size, 0, none⟩ = some (.slice af s.files.length cf) ∧ W.cell? ⟨w.heap.size, 1, none⟩ = some (.slice a2 s.staged.length cs) ∧ W.cell? ⟨w.heap.size, 2, none⟩ = some (.slice ag s.gone.length cg)) (first | exact ks.out | exact ks.out.set _ _ _)
      (first
        | (go_at_call 60; refine (HPU.out _ (H2.out.below HW1.out)).mono ?_; rintro e w2 ⟨v2, rfl, ho2, hb2⟩
           have HF2 := Lib.hid (RowF.of_own ho2)
           obtain ⟨p2, q2, hv2⟩ := own_sliceG ho2
           subst hv2
           have HW2 := Lib.hid (HW1.out.trans (hb2.mono HW1.out.size))
           have R2 := Lib.hid (R1.out.below hb2 (lt_of_block R1.out))
           have s2 := Nat.le_trans s1 hb2.size
           have kt := Lib.hid (ks.out.below hb2)
           clear ks
           have ks := kt
           clear kt hb2 ho2)
        | (go_at_call 61; refine (HDR.out _ (H3.out.below HW2.out)).mono ?_; rintro e w3 ⟨v3, rfl, ho3, hb3⟩
           have HF3 := Lib.hid (RowV.of_rowG (RowG.of_own ho3))
           obtain ⟨p3, q3, hv3⟩ := own_sliceG ho3
           subst hv3
           have HW3 := Lib.hid (HW2.out.trans (hb3.mono HW2.out.size))
           have R3 := Lib.hid (R2.out.below hb3 (lt_of_block R2.out))
           have s3 := Nat.le_trans s2 hb3.size
           have HF2' := Lib.hid (HF2.out.below hb3)
           have kt := Lib.hid (ks.out.below hb3)
           clear ks
           have ks := kt
           clear kt hb3 ho3)
        | (go_at_call 44; refine (HTL.out _ _ ⟨_, _, _, rfl, H1.out.below HW3.out, HF2'.out, HF3.out⟩).mono ?_; rintro e w4 ⟨v4, rfl, ho4, hb4⟩
           have HW4 := Lib.hid (HW3.out.trans (hb4.mono HW3.out.size))
           have R4 := Lib.hid (R3.out.below hb4 (lt_of_block R3.out))
           have HO4 := Lib.hid (ho4.base s3)
           obtain ⟨a3, c3, a7, c7, a11, c11, hv4⟩ := ho4.slices
           subst hv4
           obtain ⟨k0, k1, k2⟩ := R4.out.cells
           have z0 := R4.out.soft 0
           have z1 := R4.out.soft 1
           have z2 := R4.out.soft 2
           have kt := Lib.hid (ks.out.below hb4)
           clear ks
           have ks := kt
           clear kt hb4 ho4))
    all_goals
      go_wp2_with fail
      have Z := ((R4.out.set0 (.slice a3 t.files.length c3)).set1 (.slice a7 t.staged.length c7)).set2 (.slice a11 t.gone.length c11)
      refine bodyPost_ret (results_cell2 rfl rfl (load_store Z.cells.1 Z.cells.2.1 Z.cells.2.2)) rfl ?_
      have q1 : w.heap.size + 1 < w.heap.size + 2 := by omega
      refine ⟨_, rfl, (((HO4.out.set (p := ⟨w.heap.size + 1, 0, none⟩) q1 _).set (p := ⟨w.heap.size + 1, 1, none⟩) q1 _).set (p := ⟨w.heap.size + 1, 2, none⟩) q1 _).base (by omega), ?_⟩
      exact ((HW4.out.setCell (p := ⟨w.heap.size + 1, 0, none⟩) (Nat.le_succ _) _).setCell (p := ⟨w.heap.size + 1, 1, none⟩) (Nat.le_succ _) _).setCell (p := ⟨w.heap.size + 1, 2, none⟩) (Nat.le_succ _) _

end Go.Proofs.YtoahfhidekmodaaGreatDoor
