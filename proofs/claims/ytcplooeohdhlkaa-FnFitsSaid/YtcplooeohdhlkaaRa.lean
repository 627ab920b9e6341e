/- Walks: laws of chapter 2 that hand lists about, given what the program's function does. -/
import Derived.Test.YtcplooeohdhlkaaQc
namespace Go.Proofs.Ytcplooeohdhlkaa
open Go.RowKit Pth

def YesPost (w : World) (e : Ending) (w' : World) : Prop := e = .returned (.bool true) ∧ Below w.heap.size w w'

/-- A list that another list's block is no part of. -/
theorem own_beside {w w' : World} {B1 e n : Nat} {v u : Value} {xs : List Value} (h : w.ownsRow B1 e 1 v n xs) (hg : w.grownBy w' u.ownBlock) (hu : ∀ k, u.ownBlock = some k → k < B1) : w'.ownsRow B1 e 1 v n xs := by
  refine h.kept hg ?_
  rcases hv : v.ownBlock with _ | k
  · exact .inl rfl
  · refine .inr (fun e => ?_)
    have h1 := (h.lt k hv).1
    have h2 := hu k e.symm
    omega

set_option maxHeartbeats 4000000 in
theorem exactStep_of (p : ByteArray) (l : List Int) (b : UInt8) (v : Value) (w : World) (hp : p.size ≤ maxLen) (hrow : RowV w v (I l))
    (HI : ∀ W u, Below w.heap.size w W → RowV W u (I l) → Calls Try.prog 16 #[.string p, u, .int .u8 (b.toNat : Int)] W (IntsOk (stepT p.data.toList l b) (stepOk p.data.toList l b) W)) :
    Calls Try.prog 9 #[.string p, v, .int .u8 (b.toNat : Int)] w (YesPost w) := by
  have HIH := Lib.hid HI
  have HR := Lib.hid hrow
  obtain ⟨a, cap, rfl, hc1, hc2, _⟩ := hrow.ints
  clear hrow HI
  have HSP := Lib.hid (fun u W hr => specStep_any p l b u W hr hp)
  unfold maxLen at hp hc2
  by_cases hbig : 1048576 < p.size
  · go_enter Try.func9, Try.ntmps9
    go_wp2_with fail
    go_ret
    exact ⟨rfl, Below.refl _ _⟩
  · by_cases hbig2 : 1048576 < l.length
    · go_enter Try.func9, Try.ntmps9
      go_wp2_with fail
      go_ret
      exact ⟨rfl, Below.refl _ _⟩
    · have hL : (stepT p.data.toList l b).length ≤ 2000000 := by
        unfold stepT
        split
        · rename_i h
          simp only [stepOk, Bool.and_eq_true] at h
          have h1 := rise_len21 (step_rise p.data.toList l b) (step_within b (riseB_iff.1 h.2.1).2)
          rw [len_eq] at h1
          omega
        · simp
      generalize stepT p.data.toList l b = R at HSP HIH hL
      generalize stepOk p.data.toList l b = ok at HSP HIH
      have hl2 : l.length ≤ 2000000 := by omega
      go_enter Try.func9, Try.ntmps9
      go_wp2_with fail
      refine (toIntS_any l _ w HR.out hl2).mono ?_
      rintro e w1 ⟨v1, rfl, hown1, hb1⟩
      have HC1 := Lib.hid (HSP.out v1 w1 (RowV.of_own hown1))
      have HB1 := Lib.hid hb1
      clear hown1 hb1
      go_wp2_with fail
      refine HC1.out.mono ?_
      rintro e w2 ⟨v2, rfl, hown2, hb2⟩
      have HB2 := Lib.hid (HB1.out.trans (hb2.mono HB1.out.size))
      have HW := Lib.hid hown2
      clear hown2 hb2 HC1
      go_wp2_with fail
      refine (toIntS_any l _ w2 (HR.out.below HB2.out) hl2).mono ?_
      rintro e w3 ⟨v3, rfl, hown3, hb3⟩
      have HX := Lib.hid hown3
      have HS3 := Lib.hid hb3
      have HB3 := Lib.hid (HB2.out.trans (hb3.mono HB2.out.size))
      clear hown3 hb3
      go_wp2_with fail
      refine (HIH.out w3 v3 HB3.out (RowV.of_own HX.out)).mono ?_
      rintro e w4 ⟨v4, rfl, hown4, hb4⟩
      have HG := Lib.hid hown4
      have H34 := Lib.hid hb4
      have HS4 := Lib.hid (HS3.out.trans (hb4.mono HS3.out.size))
      have HB4 := Lib.hid (HB3.out.trans (hb4.mono HB3.out.size))
      clear hown4 hb4
      go_wp2_with fail
      refine (eqIntS_any R R v4 v2 w4 (RowV.of_own HG.out) (RowV.of_own (own_below HW.out HS4.out)) hL).mono ?_
      rw [decide_eq_true (rfl : R = R)]
      rintro e w5 ⟨rfl, hb5⟩
      have H45 := Lib.hid hb5
      have HS5 := Lib.hid (HS4.out.trans (hb5.mono HS4.out.size))
      have HB5 := Lib.hid (HB4.out.trans (hb5.mono HB4.out.size))
      clear hb5
      go_wp2_with fail
      refine (toIntS_any l _ w5 (HR.out.below HB5.out) hl2).mono ?_
      rintro e w6 ⟨v6, rfl, hown6, hb6⟩
      have H46 := Lib.hid (H45.out.trans (hb6.mono H45.out.size))
      have HS6 := Lib.hid (HS5.out.trans (hb6.mono HS5.out.size))
      have HB6 := Lib.hid (HB5.out.trans (hb6.mono HB5.out.size))
      have HY := Lib.hid hown6
      clear hown6 hb6
      go_wp2_with fail
      refine (eqIntS_any l l v3 v6 w6 (RowV.of_own (own_below (own_below HX.out H34.out) H46.out)) (RowV.of_own HY.out) hl2).mono ?_
      rw [decide_eq_true (rfl : l = l)]
      rintro e w7 ⟨rfl, hb7⟩
      have H47 := Lib.hid (H46.out.trans (hb7.mono H46.out.size))
      have HS7 := Lib.hid (HS6.out.trans (hb7.mono HS6.out.size))
      have HB7 := Lib.hid (HB6.out.trans (hb7.mono HB6.out.size))
      clear hb7 HY
      go_wp2_with fail
      have HX7 := Lib.hid (own_below (own_below HX.out H34.out) H47.out)
      refine (markIntS_any l 1 w2.heap.size v3 w7 HX7.out hl2 (by omega)).mono ?_
      rintro e w8 ⟨rfl, _, hg8⟩
      have HS8 := Lib.hid (HS7.out.trans (below_own HX7.out hg8 HS7.out.size))
      have HB8 := Lib.hid (HB7.out.trans ((below_own HX7.out hg8 HS7.out.size).mono HB2.out.size))
      have HG8 := Lib.hid (own_beside (own_below HG.out H47.out) hg8 (fun k hk => (HX.out.lt k hk).2))
      have hs8 : w3.heap.size ≤ w8.heap.size := Nat.le_trans H34.out.size (Nat.le_trans H47.out.size hg8.size)
      clear hg8 HX7
      go_wp2_with fail
      refine (eqIntS_any R R v4 v2 w8 (RowV.of_own HG8.out) (RowV.of_own (own_below HW.out HS8.out)) hL).mono ?_
      rw [decide_eq_true (rfl : R = R)]
      rintro e w9 ⟨rfl, hb9⟩
      have HG9 := Lib.hid (own_below HG8.out hb9)
      have HS9 := Lib.hid (HS8.out.trans (hb9.mono HS8.out.size))
      have HB9 := Lib.hid (HB8.out.trans (hb9.mono HB8.out.size))
      have hs9 : w3.heap.size ≤ w9.heap.size := Nat.le_trans hs8 hb9.size
      clear hb9 HG8
      go_wp2_with fail
      refine (markIntS_any R 1 w3.heap.size v4 w9 HG9.out hL (by omega)).mono ?_
      rintro e w10 ⟨rfl, hown10, hg10⟩
      have hS := below_own (own_base HG9.out HS3.out.size) hg10 HS9.out.size
      have HS10 := Lib.hid (HS9.out.trans hS)
      have HB10 := Lib.hid (HB9.out.trans (hS.mono HB2.out.size))
      have HM := Lib.hid hown10
      clear hown10 hg10 hS HG9
      go_wp2_with fail
      refine (heldIntS_any 1 R.length v4 w10 (RowV.of_own HM.out) hL (by omega)).mono ?_
      rintro e w11 ⟨rfl, hb11⟩
      have HM11 := Lib.hid hb11
      have HS11 := Lib.hid (HS10.out.trans (hb11.mono HS10.out.size))
      have HB11 := Lib.hid (HB10.out.trans (hb11.mono HB10.out.size))
      clear hb11
      go_wp2_with fail
      refine (toIntS_any l _ w11 (HR.out.below HB11.out) hl2).mono ?_
      rintro e w12 ⟨v12, rfl, hown12, hb12⟩
      have HX12 := Lib.hid hown12
      have HM12 := Lib.hid (HM11.out.trans (hb12.mono HM11.out.size))
      have HS12 := Lib.hid (HS11.out.trans (hb12.mono HS11.out.size))
      have HB12 := Lib.hid (HB11.out.trans (hb12.mono HB11.out.size))
      clear hown12 hb12
      go_wp2_with fail
      refine (HIH.out w12 v12 HB12.out (RowV.of_own HX12.out)).mono ?_
      rintro e w13 ⟨v13, rfl, hown13, hb13⟩
      have HH := Lib.hid hown13
      have HM13 := Lib.hid (HM12.out.trans (hb13.mono HM12.out.size))
      have HS13 := Lib.hid (HS12.out.trans (hb13.mono HS12.out.size))
      have HB13 := Lib.hid (HB12.out.trans (hb13.mono HB12.out.size))
      clear hown13 hb13
      go_wp2_with fail
      refine (eqIntS_any R R v13 v2 w13 (RowV.of_own HH.out) (RowV.of_own (own_below HW.out HS13.out)) hL).mono ?_
      rw [decide_eq_true (rfl : R = R)]
      rintro e w14 ⟨rfl, hb14⟩
      have HM14 := Lib.hid (HM13.out.trans (hb14.mono HM13.out.size))
      have HB14 := Lib.hid (HB13.out.trans (hb14.mono HB13.out.size))
      clear hb14
      go_wp2_with fail
      refine (heldIntS_any 1 R.length v4 w14 (RowV.of_own (own_below HM.out HM14.out)) hL (by omega)).mono ?_
      rintro e w15 ⟨rfl, hb15⟩
      have HB15 := Lib.hid (HB14.out.trans (hb15.mono HB14.out.size))
      clear hb15
      go_wp2_with fail
      go_ret
      exact ⟨rfl, HB15.out⟩

end Go.Proofs.Ytcplooeohdhlkaa
