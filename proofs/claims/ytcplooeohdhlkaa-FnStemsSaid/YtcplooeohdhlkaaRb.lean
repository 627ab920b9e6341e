/- Walks: exact laws of chapter 2, given what the program's functions do. -/
import Derived.Test.YtcplooeohdhlkaaRa
namespace Go.Proofs.Ytcplooeohdhlkaa
open Go.RowKit Pth

set_option maxHeartbeats 4000000 in
theorem exactAll_of (p : ByteArray) (l : List (List UInt8)) (v : Value) (w : World) (hp : p.size ≤ maxLen) (hrow : RowV w v (S l)) (hx : ∀ x ∈ l, x.length ≤ maxLen)
    (HI : ∀ W u, Below w.heap.size w W → RowV W u (S l) → (∀ x ∈ l, x.length ≤ 2000000) → Calls Try.prog 21 #[.string p, u] W (TextsOk (allT p.data.toList l) (allOk p.data.toList l) W)) :
    Calls Try.prog 6 #[.string p, v] w (YesPost w) := by
  have HIH := Lib.hid HI
  have HR := Lib.hid hrow
  obtain ⟨a, cap, rfl, hc1, hc2, _⟩ := hrow.texts
  clear hrow HI
  have HSP := Lib.hid (fun u W hr hx => specAll_any p l u W hp hr hx)
  have HSZ := Lib.hid (szStringS_any l 1048576 _ w HR.out hx (by omega))
  clear hx
  unfold maxLen at hp hc2
  by_cases hbig : 1048576 < p.size
  · go_enter Try.func6, Try.ntmps6
    go_wp2_with fail
    go_ret
    exact ⟨rfl, Below.refl _ _⟩
  · go_enter Try.func6, Try.ntmps6
    go_wp2_with fail
    refine HSZ.out.mono ?_
    rintro e w0 ⟨r, rfl, hr, rfl⟩
    by_cases hr0 : 0 ≤ r
    · obtain ⟨hbig2, hx⟩ := hr hr0
      have HX0 : Hid (∀ x ∈ l, x.length ≤ 2000000) := fun x hm => Nat.le_trans (hx x hm) (by omega)
      have hr1 : decide (r < 0) = false := by simp; omega
      have hL : (allT p.data.toList l).length ≤ 2000000 := by
        unfold allT
        split
        · exact Nat.le_trans (List.length_filter_le _ _) (by omega)
        · simp
      clear hr hx HSZ
      generalize allT p.data.toList l = R at HSP HIH hL
      generalize allOk p.data.toList l = ok at HSP HIH
      have hl2 : l.length ≤ 2000000 := by omega
      go_wp2_with fail
      refine (toStringS_any l _ w HR.out hl2).mono ?_
      rintro e w1 ⟨v1, rfl, hown1, hb1⟩
      have HC1 := Lib.hid (HSP.out v1 w1 (RowV.of_own hown1) HX0.out)
      have HB1 := Lib.hid hb1
      clear hown1 hb1
      go_wp2_with fail
      refine HC1.out.mono ?_
      rintro e w2 ⟨v2, rfl, hown2, hb2⟩
      have HB2 := Lib.hid (HB1.out.trans (hb2.mono HB1.out.size))
      have HW := Lib.hid hown2
      clear hown2 hb2 HC1
      go_wp2_with fail
      refine (toStringS_any l _ w2 (HR.out.below HB2.out) hl2).mono ?_
      rintro e w3 ⟨v3, rfl, hown3, hb3⟩
      have HX := Lib.hid hown3
      have HS3 := Lib.hid hb3
      have HB3 := Lib.hid (HB2.out.trans (hb3.mono HB2.out.size))
      clear hown3 hb3
      go_wp2_with fail
      refine (HIH.out w3 v3 HB3.out (RowV.of_own HX.out) HX0.out).mono ?_
      rintro e w4 ⟨v4, rfl, hown4, hb4⟩
      have HG := Lib.hid hown4
      have H34 := Lib.hid hb4
      have HS4 := Lib.hid (HS3.out.trans (hb4.mono HS3.out.size))
      have HB4 := Lib.hid (HB3.out.trans (hb4.mono HB3.out.size))
      clear hown4 hb4
      go_wp2_with fail
      refine (eqStringS_any R R v4 v2 w4 (RowV.of_own HG.out) (RowV.of_own (own_below HW.out HS4.out)) hL).mono ?_
      rw [decide_eq_true (rfl : R = R)]
      rintro e w5 ⟨rfl, hb5⟩
      have H45 := Lib.hid hb5
      have HS5 := Lib.hid (HS4.out.trans (hb5.mono HS4.out.size))
      have HB5 := Lib.hid (HB4.out.trans (hb5.mono HB4.out.size))
      clear hb5
      go_wp2_with fail
      refine (toStringS_any l _ w5 (HR.out.below HB5.out) hl2).mono ?_
      rintro e w6 ⟨v6, rfl, hown6, hb6⟩
      have H46 := Lib.hid (H45.out.trans (hb6.mono H45.out.size))
      have HS6 := Lib.hid (HS5.out.trans (hb6.mono HS5.out.size))
      have HB6 := Lib.hid (HB5.out.trans (hb6.mono HB5.out.size))
      have HY := Lib.hid hown6
      clear hown6 hb6
      go_wp2_with fail
      refine (eqStringS_any l l v3 v6 w6 (RowV.of_own (own_below (own_below HX.out H34.out) H46.out)) (RowV.of_own HY.out) hl2).mono ?_
      rw [decide_eq_true (rfl : l = l)]
      rintro e w7 ⟨rfl, hb7⟩
      have H47 := Lib.hid (H46.out.trans (hb7.mono H46.out.size))
      have HS7 := Lib.hid (HS6.out.trans (hb7.mono HS6.out.size))
      have HB7 := Lib.hid (HB6.out.trans (hb7.mono HB6.out.size))
      clear hb7 HY
      go_wp2_with fail
      have HX7 := Lib.hid (own_below (own_below HX.out H34.out) H47.out)
      refine (markStringS_any l 1 w2.heap.size v3 w7 HX7.out hl2 (by omega) (by omega)).mono ?_
      rintro e w8 ⟨rfl, _, hg8⟩
      have HS8 := Lib.hid (HS7.out.trans (below_own HX7.out hg8 HS7.out.size))
      have HB8 := Lib.hid (HB7.out.trans ((below_own HX7.out hg8 HS7.out.size).mono HB2.out.size))
      have HG8 := Lib.hid (own_beside (own_below HG.out H47.out) hg8 (fun k hk => (HX.out.lt k hk).2))
      have hs8 : w3.heap.size ≤ w8.heap.size := Nat.le_trans H34.out.size (Nat.le_trans H47.out.size hg8.size)
      clear hg8 HX7
      go_wp2_with fail
      refine (eqStringS_any R R v4 v2 w8 (RowV.of_own HG8.out) (RowV.of_own (own_below HW.out HS8.out)) hL).mono ?_
      rw [decide_eq_true (rfl : R = R)]
      rintro e w9 ⟨rfl, hb9⟩
      have HG9 := Lib.hid (own_below HG8.out hb9)
      have HS9 := Lib.hid (HS8.out.trans (hb9.mono HS8.out.size))
      have HB9 := Lib.hid (HB8.out.trans (hb9.mono HB8.out.size))
      have hs9 : w3.heap.size ≤ w9.heap.size := Nat.le_trans hs8 hb9.size
      clear hb9 HG8
      go_wp2_with fail
      refine (markStringS_any R 1 w3.heap.size v4 w9 HG9.out hL (by omega) (by omega)).mono ?_
      rintro e w10 ⟨rfl, hown10, hg10⟩
      have hS := below_own (own_base HG9.out HS3.out.size) hg10 HS9.out.size
      have HS10 := Lib.hid (HS9.out.trans hS)
      have HB10 := Lib.hid (HB9.out.trans (hS.mono HB2.out.size))
      have HM := Lib.hid hown10
      clear hown10 hg10 hS HG9
      go_wp2_with fail
      refine (heldStringS_any 1 R.length v4 w10 (RowV.of_own HM.out) hL (by omega) (by omega)).mono ?_
      rintro e w11 ⟨rfl, hb11⟩
      have HM11 := Lib.hid hb11
      have HS11 := Lib.hid (HS10.out.trans (hb11.mono HS10.out.size))
      have HB11 := Lib.hid (HB10.out.trans (hb11.mono HB10.out.size))
      clear hb11
      go_wp2_with fail
      refine (toStringS_any l _ w11 (HR.out.below HB11.out) hl2).mono ?_
      rintro e w12 ⟨v12, rfl, hown12, hb12⟩
      have HX12 := Lib.hid hown12
      have HM12 := Lib.hid (HM11.out.trans (hb12.mono HM11.out.size))
      have HS12 := Lib.hid (HS11.out.trans (hb12.mono HS11.out.size))
      have HB12 := Lib.hid (HB11.out.trans (hb12.mono HB11.out.size))
      clear hown12 hb12
      go_wp2_with fail
      refine (HIH.out w12 v12 HB12.out (RowV.of_own HX12.out) HX0.out).mono ?_
      rintro e w13 ⟨v13, rfl, hown13, hb13⟩
      have HH := Lib.hid hown13
      have HM13 := Lib.hid (HM12.out.trans (hb13.mono HM12.out.size))
      have HS13 := Lib.hid (HS12.out.trans (hb13.mono HS12.out.size))
      have HB13 := Lib.hid (HB12.out.trans (hb13.mono HB12.out.size))
      clear hown13 hb13
      go_wp2_with fail
      refine (eqStringS_any R R v13 v2 w13 (RowV.of_own HH.out) (RowV.of_own (own_below HW.out HS13.out)) hL).mono ?_
      rw [decide_eq_true (rfl : R = R)]
      rintro e w14 ⟨rfl, hb14⟩
      have HM14 := Lib.hid (HM13.out.trans (hb14.mono HM13.out.size))
      have HB14 := Lib.hid (HB13.out.trans (hb14.mono HB13.out.size))
      clear hb14
      go_wp2_with fail
      refine (heldStringS_any 1 R.length v4 w14 (RowV.of_own (own_below HM.out HM14.out)) hL (by omega) (by omega)).mono ?_
      rintro e w15 ⟨rfl, hb15⟩
      have HB15 := Lib.hid (HB14.out.trans (hb15.mono HB14.out.size))
      clear hb15
      go_wp2_with fail
      go_ret
      exact ⟨rfl, HB15.out⟩
    · have hr1 : decide (r < 0) = true := by simp; omega
      clear hr HSZ
      go_wp2_with fail
      go_ret
      exact ⟨rfl, Below.refl _ _⟩

set_option maxHeartbeats 4000000 in
theorem exactStart_of (p : ByteArray) (w : World) (hp : p.size ≤ maxLen)
    (HI : ∀ W, Below w.heap.size w W → Calls Try.prog 15 #[.string p] W (IntsOk (startT p.data.toList) (patL p.data.toList) W)) :
    Calls Try.prog 10 #[.string p] w (YesPost w) := by
  have HIH := Lib.hid HI
  clear HI
  have HSP := Lib.hid (specStart_any p w hp)
  unfold maxLen at hp
  by_cases hbig : 1048576 < p.size
  · go_enter Try.func10, Try.ntmps10
    go_wp2_with fail
    go_ret
    exact ⟨rfl, Below.refl _ _⟩
  · have hL : (startT p.data.toList).length ≤ 2000000 := by
      unfold startT
      split
      · have h1 := rise_len21 (start_rise p.data.toList) (start_within p.data.toList)
        rw [len_eq] at h1
        omega
      · simp
    generalize startT p.data.toList = R at HSP HIH hL
    generalize patL p.data.toList = ok at HSP HIH
    go_enter Try.func10, Try.ntmps10
    go_wp2_with fail
    refine HSP.out.mono ?_
    rintro e w2 ⟨v2, rfl, hown2, hb2⟩
    have HB2 := Lib.hid hb2
    have HW := Lib.hid hown2
    clear hown2 hb2
    go_wp2_with fail
    refine (HIH.out w2 HB2.out).mono ?_
    rintro e w4 ⟨v4, rfl, hown4, hb4⟩
    have HG := Lib.hid hown4
    have HS4 := Lib.hid hb4
    have HB4 := Lib.hid (HB2.out.trans (hb4.mono HB2.out.size))
    clear hown4 hb4
    go_wp2_with fail
    refine (eqIntS_any R R v4 v2 w4 (RowV.of_own HG.out) (RowV.of_own (own_below HW.out HS4.out)) hL).mono ?_
    rw [decide_eq_true (rfl : R = R)]
    rintro e w9 ⟨rfl, hb9⟩
    have HG9 := Lib.hid (own_below HG.out hb9)
    have HS9 := Lib.hid (HS4.out.trans (hb9.mono HS4.out.size))
    have HB9 := Lib.hid (HB4.out.trans (hb9.mono HB4.out.size))
    clear hb9
    go_wp2_with fail
    refine (markIntS_any R 1 w2.heap.size v4 w9 HG9.out hL (by omega)).mono ?_
    rintro e w10 ⟨rfl, hown10, hg10⟩
    have hS := below_own HG9.out hg10 HS9.out.size
    have HS10 := Lib.hid (HS9.out.trans hS)
    have HB10 := Lib.hid (HB9.out.trans (hS.mono HB2.out.size))
    have HM := Lib.hid hown10
    clear hown10 hg10 hS HG9
    go_wp2_with fail
    refine (heldIntS_any 1 R.length v4 w10 (RowV.of_own HM.out) hL (by omega)).mono ?_
    rintro e w11 ⟨rfl, hb11⟩
    have HM11 := Lib.hid hb11
    have HS11 := Lib.hid (HS10.out.trans (hb11.mono HS10.out.size))
    have HB11 := Lib.hid (HB10.out.trans (hb11.mono HB10.out.size))
    clear hb11
    go_wp2_with fail
    refine (HIH.out w11 HB11.out).mono ?_
    rintro e w13 ⟨v13, rfl, hown13, hb13⟩
    have HH := Lib.hid hown13
    have HM13 := Lib.hid (HM11.out.trans (hb13.mono HM11.out.size))
    have HS13 := Lib.hid (HS11.out.trans (hb13.mono HS11.out.size))
    have HB13 := Lib.hid (HB11.out.trans (hb13.mono HB11.out.size))
    clear hown13 hb13
    go_wp2_with fail
    refine (eqIntS_any R R v13 v2 w13 (RowV.of_own HH.out) (RowV.of_own (own_below HW.out HS13.out)) hL).mono ?_
    rw [decide_eq_true (rfl : R = R)]
    rintro e w14 ⟨rfl, hb14⟩
    have HM14 := Lib.hid (HM13.out.trans (hb14.mono HM13.out.size))
    have HB14 := Lib.hid (HB13.out.trans (hb14.mono HB13.out.size))
    clear hb14
    go_wp2_with fail
    refine (heldIntS_any 1 R.length v4 w14 (RowV.of_own (own_below HM.out HM14.out)) hL (by omega)).mono ?_
    rintro e w15 ⟨rfl, hb15⟩
    have HB15 := Lib.hid (HB14.out.trans (hb15.mono HB14.out.size))
    clear hb15
    go_wp2_with fail
    go_ret
    exact ⟨rfl, HB15.out⟩

set_option maxHeartbeats 2000000 in
theorem exactFits_of (p : ByteArray) (t : List UInt8) (w : World) (hp : p.size ≤ maxLen) (ht : t.length ≤ maxLen)
    (HI : ∀ W, Below w.heap.size w W → Calls Try.prog 13 #[.string p, .string ⟨t.toArray⟩] W (BoolsPost (fitsT p.data.toList t) (fitsOk p.data.toList t) W)) :
    Calls Try.prog 5 #[.string p, .string ⟨t.toArray⟩] w (YesPost w) := by
  have HIH := Lib.hid HI
  clear HI
  have HSP := Lib.hid (specFits_any p ⟨t.toArray⟩ w hp (by simpa [ByteArray.size] using ht))
  unfold maxLen at hp ht
  by_cases hbig : 1048576 < p.size
  · clear HSP HIH
    go_enter Try.func5, Try.ntmps5
    go_wp2_with fail
    go_ret
    exact ⟨rfl, Below.refl _ _⟩
  · by_cases hbig2 : 1048576 < t.length
    · clear HSP HIH
      go_enter Try.func5, Try.ntmps5
      go_wp2_with fail
      go_ret
      exact ⟨rfl, Below.refl _ _⟩
    · generalize fitsT p.data.toList t = R at HSP HIH
      generalize fitsOk p.data.toList t = ok at HSP HIH
      go_enter Try.func5, Try.ntmps5
      go_wp2_with fail
      refine HSP.out.mono ?_
      rintro e w1 ⟨rfl, hb1⟩
      have HB1 := Lib.hid hb1
      clear hb1
      go_wp2_with fail
      refine (HIH.out w1 HB1.out).mono ?_
      rintro e w2 ⟨rfl, hb2⟩
      have HB2 := Lib.hid (HB1.out.trans (hb2.mono HB1.out.size))
      clear hb2
      go_wp2_with fail
      go_ret
      exact ⟨rfl, HB2.out⟩

set_option maxHeartbeats 2000000 in
theorem exactStem_of (p : ByteArray) (t : List UInt8) (w : World) (hp : p.size ≤ maxLen) (ht : t.length ≤ maxLen)
    (HI : ∀ W, Below w.heap.size w W → Calls Try.prog 30 #[.string p, .string ⟨t.toArray⟩] W (TextOk (stemT p.data.toList t) (stemOk p.data.toList t) W)) :
    Calls Try.prog 7 #[.string p, .string ⟨t.toArray⟩] w (YesPost w) := by
  have HIH := Lib.hid HI
  clear HI
  have HSP := Lib.hid (specStem_any p ⟨t.toArray⟩ w hp (by simpa [ByteArray.size] using ht))
  unfold maxLen at hp ht
  by_cases hbig : 1048576 < p.size
  · clear HSP HIH
    go_enter Try.func7, Try.ntmps7
    go_wp2_with fail
    go_ret
    exact ⟨rfl, Below.refl _ _⟩
  · by_cases hbig2 : 1048576 < t.length
    · clear HSP HIH
      go_enter Try.func7, Try.ntmps7
      go_wp2_with fail
      go_ret
      exact ⟨rfl, Below.refl _ _⟩
    · generalize stemT p.data.toList t = R at HSP HIH
      generalize stemOk p.data.toList t = ok at HSP HIH
      go_enter Try.func7, Try.ntmps7
      go_wp2_with fail
      refine HSP.out.mono ?_
      rintro e w1 ⟨rfl, hb1⟩
      have HB1 := Lib.hid hb1
      clear hb1
      go_wp2_with fail
      refine (HIH.out w1 HB1.out).mono ?_
      rintro e w2 ⟨rfl, hb2⟩
      have HB2 := Lib.hid (HB1.out.trans (hb2.mono HB1.out.size))
      clear hb2
      go_wp2_with fail
      go_ret
      exact ⟨rfl, HB2.out⟩

set_option maxHeartbeats 2000000 in
theorem exactFill_of (p : ByteArray) (t : List UInt8) (w : World) (hp : p.size ≤ maxLen) (ht : t.length ≤ maxLen)
    (HI : ∀ W, Below w.heap.size w W → Calls Try.prog 32 #[.string p, .string ⟨t.toArray⟩] W (TextOk (fillT p.data.toList t) (fillOk p.data.toList t) W)) :
    Calls Try.prog 8 #[.string p, .string ⟨t.toArray⟩] w (YesPost w) := by
  have HIH := Lib.hid HI
  clear HI
  have HSP := Lib.hid (specFill_l p t w hp ht)
  unfold maxLen at hp ht
  by_cases hbig : 1048576 < p.size
  · clear HSP HIH
    go_enter Try.func8, Try.ntmps8
    go_wp2_with fail
    go_ret
    exact ⟨rfl, Below.refl _ _⟩
  · by_cases hbig2 : 1048576 < t.length
    · clear HSP HIH
      go_enter Try.func8, Try.ntmps8
      go_wp2_with fail
      go_ret
      exact ⟨rfl, Below.refl _ _⟩
    · generalize fillT p.data.toList t = R at HSP HIH
      generalize fillOk p.data.toList t = ok at HSP HIH
      go_enter Try.func8, Try.ntmps8
      go_wp2_with fail
      refine HSP.out.mono ?_
      rintro e w1 ⟨rfl, hb1⟩
      have HB1 := Lib.hid hb1
      clear hb1
      go_wp2_with fail
      refine (HIH.out w1 HB1.out).mono ?_
      rintro e w2 ⟨rfl, hb2⟩
      have HB2 := Lib.hid (HB1.out.trans (hb2.mono HB1.out.size))
      clear hb2
      go_wp2_with fail
      go_ret
      exact ⟨rfl, HB2.out⟩

set_option maxHeartbeats 2000000 in
theorem exactPlain_of (p : ByteArray) (w : World) (hp : p.size ≤ maxLen)
    (HI : ∀ W, Below w.heap.size w W → Calls Try.prog 17 #[.string p] W (BoolsPost (plainT p.data.toList) (patL p.data.toList) W)) :
    Calls Try.prog 11 #[.string p] w (YesPost w) := by
  have HIH := Lib.hid HI
  clear HI
  have HSP := Lib.hid (specPlain_any p w hp)
  unfold maxLen at hp
  by_cases hbig : 1048576 < p.size
  · clear HSP HIH
    go_enter Try.func11, Try.ntmps11
    go_wp2_with fail
    go_ret
    exact ⟨rfl, Below.refl _ _⟩
  · generalize plainT p.data.toList = R at HSP HIH
    generalize patL p.data.toList = ok at HSP HIH
    go_enter Try.func11, Try.ntmps11
    go_wp2_with fail
    refine HSP.out.mono ?_
    rintro e w1 ⟨rfl, hb1⟩
    have HB1 := Lib.hid hb1
    clear hb1
    go_wp2_with fail
    refine (HIH.out w1 HB1.out).mono ?_
    rintro e w2 ⟨rfl, hb2⟩
    have HB2 := Lib.hid (HB1.out.trans (hb2.mono HB1.out.size))
    clear hb2
    go_wp2_with fail
    go_ret
    exact ⟨rfl, HB2.out⟩

end Go.Proofs.Ytcplooeohdhlkaa
