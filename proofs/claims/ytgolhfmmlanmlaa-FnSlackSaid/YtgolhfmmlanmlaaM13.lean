/- Texts of one claim, joined in their order. -/
import Derived.WalkKit
import Derived.Deep.Quiet
import Derived.StillTail
import Derived.BigQuiet
import Derived.Test.YtgolhfmmlanmlaaRows
import Derived.Test.YtgolhfmmlanmlaaM12
import Derived.Test.YtgolhfmmlanmlaaM7
import Derived.Test.YtgolhfmmlanmlaaM3
import Derived.Test.YtgolhfmmlanmlaaM10

/- Walks: l5Mend of the reference where the order is to be mended. -/
namespace Go.Proofs.Ytgolhfmmlanmlaa
open Go.RowKit Pth

theorem Lists.l1 {B : Nat} {w : World} {a b c : Value} {A D E : List Int} (h : Lists B w [(a, A), (b, D), (c, E)]) : w.ownsRow B 3 1 a A.length (I A) := h.1 (a, A) (by simp)
theorem Lists.l2 {B : Nat} {w : World} {a b c : Value} {A D E : List Int} (h : Lists B w [(a, A), (b, D), (c, E)]) : w.ownsRow B 3 1 b D.length (I D) := h.1 (b, D) (by simp)
theorem Lists.l3 {B : Nat} {w : World} {a b c : Value} {A D E : List Int} (h : Lists B w [(a, A), (b, D), (c, E)]) : w.ownsRow B 3 1 c E.length (I E) := h.1 (c, E) (by simp)
theorem Lists.ap13 {B : Nat} {w : World} {a b c : Value} {A D E : List Int} (h : Lists B w [(a, A), (b, D), (c, E)]) : ∀ k, a.ownBlock = some k → c.ownBlock ≠ some k := fun k h1 h2 => (List.pairwise_cons.1 h.2).1 (c, E) (by simp) k h1 h2
theorem Lists.t1 {B : Nat} {w w' : World} {a b c v : Value} {A D E F : List Int} (h : Lists B w [(a, A), (b, D), (c, E)]) (hg : w.grownBy w' a.ownBlock) (hown : w'.ownsRow B 3 1 v F.length (I F)) (hv : ∀ k, v.ownBlock = some k → a.ownBlock = some k ∨ w.heap.size ≤ k) : Lists B w' [(v, F), (b, D), (c, E)] :=
  Lists.turn (L := []) (M := [(b, D), (c, E)]) h hg hown hv
theorem Lists.t2 {B : Nat} {w w' : World} {a b c v : Value} {A D E F : List Int} (h : Lists B w [(a, A), (b, D), (c, E)]) (hg : w.grownBy w' b.ownBlock) (hown : w'.ownsRow B 3 1 v F.length (I F)) (hv : ∀ k, v.ownBlock = some k → b.ownBlock = some k ∨ w.heap.size ≤ k) : Lists B w' [(a, A), (v, F), (c, E)] :=
  Lists.turn (L := [(a, A)]) (M := [(c, E)]) h hg hown hv
theorem Lists.t3 {B : Nat} {w w' : World} {a b c v : Value} {A D E F : List Int} (h : Lists B w [(a, A), (b, D), (c, E)]) (hg : w.grownBy w' c.ownBlock) (hown : w'.ownsRow B 3 1 v F.length (I F)) (hv : ∀ k, v.ownBlock = some k → c.ownBlock = some k ∨ w.heap.size ≤ k) : Lists B w' [(a, A), (b, D), (v, F)] :=
  Lists.turn (L := [(a, A), (b, D)]) (M := []) h hg hown hv
theorem far_get {ls : List (List Int)} {y : Int} {x : Nat} (hx : x < ls.length) : (I ((upto ls.length).map (farI ls y)))[x]? = some (.int .i64 (farI ls y (x : Int))) := by
  simp [I, upto, hx]
theorem rowv_at {W : World} {a : Option Addr} {c : Nat} {M : List Int} (h : RowV W (.slice a M.length c) (I M)) (i : Nat) (hi : i < M.length) : ∃ g o, a = some ⟨g, o, none⟩ ∧ W.cell? ⟨g, o + i, none⟩ = some (.int .i64 M[i]) := by
  obtain ⟨_, _, e, _, _, hc⟩ := h.ints
  injection e with e1 _ _
  obtain ⟨g, o, e2, _, e3⟩ := hc i hi
  exact ⟨g, o, by rw [e1, e2], e3⟩
theorem Ip_is (l : List Nat) : l.map Int.ofNat = Ip l := rfl

set_option maxRecDepth 20000 in
set_option maxHeartbeats 16000000 in
theorem l5Mend_yes (ls : List (List Int)) (l : List Int) (t x : Nat) (B gO cO : Nat) (nv : Value) (w : World) (hst : GraphV w (.agg #[nv, .slice (some ⟨gO, 0, none⟩) l.length cO]) ls l) (hown : w.ownsRow B 3 1 (.slice (some ⟨gO, 0, none⟩) l.length cO) l.length (I l)) (hG : GoodG ls l) (ht : t < ls.length) (hx : x < ls.length) (hloop : farI ls t x < 0) (hlt : pos l (t : Int) ≤ pos l (x : Int)) :
    Calls Try.prog 97 #[.agg #[nv, .slice (some ⟨gO, 0, none⟩) l.length cO], .int .i64 (t : Int), .int .i64 (x : Int)] w fun e w' => ∃ u, e = .returned u ∧ w'.ownsRow w.heap.size 3 1 u (sortI (movedL l (mendO ls l t x))).length (I (sortI (movedL l (mendO ls l t x)))) ∧ w'.ownsRow B 3 1 (.slice (some ⟨gO, 0, none⟩) l.length cO) l.length (I (mendO ls l t x)) ∧ w.grownBy w' (some gO) := by
  have HV := Lib.hid hst
  have HO := Lib.hid hown
  have hgp := hG.toP
  have htl : (t : Int) ∈ l := hgp.all.2 ⟨by omega, by omega⟩
  have hxl : (x : Int) ∈ l := hgp.all.2 ⟨by omega, by omega⟩
  obtain ⟨an, cn, rfl, hn1, hn2, _⟩ := hst.parts.1.lists
  obtain ⟨hcO1, hcO2⟩ : l.length ≤ cO ∧ cO ≤ 2 ^ 63 - 1 := by
    rcases hown.2 with ⟨e, _⟩ | ⟨g', cap, cur, e, _, _, h5, h6, _⟩
    · cases e
    · injection e with _ _ e3; unfold maxLen at h6; omega
  have hgOw := (hown.lt gO rfl).2
  unfold maxLen at hn2
  have HRO := Lib.hid (RowV.of_own hown)
  obtain ⟨wa, hwa⟩ : ∃ wa, wa = w.alloc (.cells #[.slice an ls.length cn, .slice (some ⟨gO, 0, none⟩) l.length cO] 26) := ⟨_, rfl⟩
  have P0 : Hid (Blk2 wa w.heap.size 26 (.slice an ls.length cn) (.slice (some ⟨gO, 0, none⟩) l.length cO)) := by rw [hwa]; exact Blk2.new
  have HA : Hid (Below w.heap.size w wa) := by rw [hwa]; exact (Below.refl w.heap.size w).alloc (Nat.le_refl _) _
  have HWA := Lib.hid hwa
  have hsa : w.heap.size < wa.heap.size := lt_of_block P0.out
  obtain ⟨c0, c1⟩ := P0.out.cells
  have HP1 := Lib.hid (l5Place_any l (t : Int) _ wa (HRO.out.below HA.out))
  have HP2 := Lib.hid (l5Place_any l (x : Int) _ wa (HRO.out.below HA.out))
  rw [place_mem htl] at HP1
  rw [place_mem hxl] at HP2
  obtain ⟨lo, hlo⟩ : ∃ lo, lo = pos l (t : Int) := ⟨_, rfl⟩
  obtain ⟨hi, hhi⟩ : ∃ hi, hi = pos l (x : Int) := ⟨_, rfl⟩
  have hhil : hi < l.length := by rw [hhi]; exact pos_lt hxl
  obtain ⟨st, hst'⟩ : ∃ st, st = strL l lo hi := ⟨_, rfl⟩
  rw [← hlo] at HP1 hlt
  rw [← hhi] at HP2 hlt
  obtain ⟨pm1, pm2, pm3, pm4⟩ := mend_parts hG htl hxl hloop hlo hhi hlt hst'
  obtain ⟨ps, hps⟩ : ∃ ps, ps = placesL ls t x st lo := ⟨_, rfl⟩
  obtain ⟨M, hM⟩ : ∃ M, M = movesL ls t x st := ⟨_, rfl⟩
  rw [← hps, ← hM] at pm1 pm2 pm3
  rw [← hps] at pm4
  rw [pm2, pm1]
  have HP3 := Lib.hid pm3
  have HP4 := Lib.hid pm4
  have HGA : Hid (aK ls x st st.length ++ bK ls t st st.length = M ∧ pK ls t x st lo st.length = ps) := by rw [hps, hM]; exact gather_done ls t x st lo
  have hgt : decide ((lo : Int) > (hi : Int)) = false := by rw [decide_eq_false_iff_not]; omega
  have HFT := Lib.hid (fun W (h : Below wa.heap.size wa W) => l5Far_any ls l t _ W (HV.out.below (bth HA.out h (Nat.le_refl _))) hG ht)
  have HSG : Hid (∀ k (hk : k < st.length), ∃ h : lo + k < l.length, l[lo + k] = st[k]) := fun k hk => by subst hst'; exact strL_get hhil hlt k hk
  have HSN : Hid (st.length = hi + 1 - lo) := by show _ = _; rw [hst']; exact strL_len hhil hlt
  have HSM : Hid (∀ k (hk : k < st.length), st[k] ∈ l) := fun k hk => by obtain ⟨h, e⟩ := HSG.out k hk; rw [← e]; exact List.getElem_mem h
  have HGP := Lib.hid hgp
  have HFA := Lib.hid (fun W (h : Below w.heap.size w W) (q : Nat) (hq : q < ls.length) => l5Far_any ls l q _ W (HV.out.below h) hG hq)
  have h10 : ls.length ≤ 10 := hG.high
  have HLL : Hid (l.length = ls.length) := hG.same
  have HXL := Lib.hid hxl
  have HTL := Lib.hid htl
  have HLO := Lib.hid hloop
  have hll0 : 0 < l.length := by omega
  clear hwa hst hown hst' hlo hhi pm1 pm2 pm3 pm4 hps hM hG hgp htl hxl hloop
  go_enter Try.func97, Try.ntmps97
  go_wp2_with fail
  rw [← HWA.out]
  refine HP1.out.mono ?_
  rintro e w1 ⟨rfl, rfl⟩
  go_wp2_with fail
  refine HP2.out.mono ?_
  rintro e w1 ⟨rfl, rfl⟩
  go_wp2_with fail
  refine (HFT.out wa (Below.refl _ _)).mono ?_
  rintro e w1 ⟨v1, rfl, ho1, hb1⟩
  rw [far_len] at ho1
  obtain ⟨fa, fc, rfl⟩ : ∃ a c, v1 = .slice a ls.length c := by
    obtain ⟨a, c, he, _⟩ := RowV.of_own ho1
    exact ⟨a, c, by rw [he, I_len, far_len]⟩
  have HF1 := Lib.hid ho1
  have HB1 := Lib.hid (bth HA.out hb1 (Nat.le_refl _))
  have K1 := Lib.hid hb1
  have hs1 := hb1.size
  clear ho1 hb1 c0 c1 HP1 HP2 HFT
  go_wp2_with fail
  go_loopw [10, 11, 12, 13] (fun av bv pv i wr => ∃ k : Nat, k ≤ st.length ∧ i = .int .i64 ((lo + k : Nat) : Int) ∧ Hid (Lists w1.heap.size wr [(av, aK ls x st k), (bv, bK ls t st k), (pv, Ip (pK ls t x st lo k))]) ∧ Hid (Below w1.heap.size w1 wr)) (fun _ _ _ i _ => hi + 1 - (intOf i).toNat)
  case atStart => exact ⟨0, Nat.zero_le _, rfl, ⟨fun p hp => by simp [aK, bK, pK, locK, Ip] at hp; rcases hp with rfl | rfl | rfl <;> exact ⟨rfl, .inl ⟨rfl, rfl⟩⟩, by simp [Apart, Value.ownBlock]⟩, Below.refl _ _⟩
  case round =>
    obtain ⟨k, hk, rfl, HL, HB⟩ := hrel
    have hstl : st.length ≤ 10 := by have := HSN.out; have := HLL.out; omega
    have HBW := Lib.hid (bth HB1.out HB.out (Nat.le_refl _))
    have hB1r := HB.out.size
    by_cases hkl : k < st.length
    · obtain ⟨hlk, hge⟩ := HSG.out k hkl
      have hym := HSM.out k hkl
      have hrg := HGP.out.range _ hym
      obtain ⟨y, hy⟩ : ∃ y : Nat, st[k] = y := ⟨(st[k]).toNat, by omega⟩
      have hyl : y < ls.length := by omega
      have PW := Lib.hid (P0.out.below (bth K1.out HB.out (Nat.le_refl _)) hsa)
      obtain ⟨c0, c1⟩ := PW.out.cells
      have hoc : wr.cell? ⟨gO, lo + k, none⟩ = some (.int .i64 (y : Int)) := by
        rw [(own_below HO.out HBW.out).cellAt (lo + k) (by omega), I_at hlk, hge, hy]
      have hAF : aheadP ls x (y : Int) = decide (farI ls y x ≥ 0) := by rw [← hy]; exact ahead_far HGP.out HXL.out hym
      have hBF : behindP ls t (y : Int) = decide (farI ls t y ≥ 0) := by rw [← hy]; exact behind_far HGP.out hym
      have hAP : ¬ (aheadP ls x (y : Int) = true ∧ behindP ls t (y : Int) = true) := by rw [← hy]; exact apart_two HGP.out HTL.out HXL.out HLO.out hym
      have hgA := gather_ahead (ls := ls) (t := t) (x := x) (lo := lo) hkl
      have hgB := gather_behind (ls := ls) (t := t) (x := x) (lo := lo) hkl
      have hgN := gather_none (ls := ls) (t := t) (x := x) (lo := lo) hkl
      rw [hy] at hgA hgB hgN
      have hla : (aK ls x st k).length ≤ 10 := by have := List.length_filter_le (aheadP ls x) (st.take k); rw [List.length_take] at this; unfold aK; omega
      have hlb : (bK ls t st k).length ≤ 10 := by have := List.length_filter_le (behindP ls t) (st.take k); rw [List.length_take] at this; unfold bK; omega
      have hlp : (Ip (pK ls t x st lo k)).length ≤ 10 := by rw [Ip_len]; unfold pK; rw [List.length_map]; have := locK_len st (bothP ls t x) k; omega
      -- what is known of the next lists, under letters
      obtain ⟨A, hA⟩ : ∃ A, A = aK ls x st k := ⟨_, rfl⟩
      obtain ⟨D, hD⟩ : ∃ D, D = bK ls t st k := ⟨_, rfl⟩
      obtain ⟨P, hP⟩ : ∃ P, P = Ip (pK ls t x st lo k) := ⟨_, rfl⟩
      obtain ⟨fx, hfx⟩ : ∃ f, f = farI ls y x := ⟨_, rfl⟩
      obtain ⟨fy, hfy⟩ : ∃ f, f = farI ls t y := ⟨_, rfl⟩
      have HgA : Hid (fx ≥ 0 → aK ls x st (k + 1) = A ++ [(y : Int)] ∧ bK ls t st (k + 1) = D ∧ Ip (pK ls t x st lo (k + 1)) = P ++ [((lo + k : Nat) : Int)]) := fun h => by
        have h1 : aheadP ls x (y : Int) = true := by rw [hAF, ← hfx]; simpa using h
        have h2 : behindP ls t (y : Int) = false := by
          cases hh : behindP ls t (y : Int) with
          | false => rfl
          | true => exact absurd ⟨h1, hh⟩ hAP
        obtain ⟨e1, e2, e3⟩ := hgA h1 h2
        exact ⟨by rw [e1, hA], by rw [e2, hD], by rw [e3, Ip_snoc, hP]⟩
      have HgB : Hid (fx < 0 → fy ≥ 0 → aK ls x st (k + 1) = A ∧ bK ls t st (k + 1) = D ++ [(y : Int)] ∧ Ip (pK ls t x st lo (k + 1)) = P ++ [((lo + k : Nat) : Int)]) := fun h h' => by
        have h1 : aheadP ls x (y : Int) = false := by rw [hAF, ← hfx]; simpa using h
        have h2 : behindP ls t (y : Int) = true := by rw [hBF, ← hfy]; simpa using h'
        obtain ⟨e1, e2, e3⟩ := hgB h1 h2
        exact ⟨by rw [e1, hA], by rw [e2, hD], by rw [e3, Ip_snoc, hP]⟩
      have HgN : Hid (fx < 0 → fy < 0 → aK ls x st (k + 1) = A ∧ bK ls t st (k + 1) = D ∧ Ip (pK ls t x st lo (k + 1)) = P) := fun h h' => by
        have h1 : aheadP ls x (y : Int) = false := by rw [hAF, ← hfx]; simpa using h
        have h2 : behindP ls t (y : Int) = false := by rw [hBF, ← hfy]; simpa using h'
        obtain ⟨e1, e2, e3⟩ := hgN h1 h2
        exact ⟨by rw [e1, hA], by rw [e2, hD], by rw [e3, hP]⟩
      rw [← hA] at hla HL
      rw [← hD] at hlb HL
      rw [← hP] at hlp HL
      have HFX : Hid (∀ (W : World) u B, W.ownsRow B 3 1 u ls.length (I ((upto ls.length).map (farI ls y))) → ∃ g c, u = .slice (some ⟨g, 0, none⟩) ls.length c ∧ ls.length ≤ c ∧ c ≤ 2 ^ 63 - 1 ∧ W.cell? ⟨g, x, none⟩ = some (.int .i64 fx)) := fun W u B h => by
        rcases h.2 with ⟨_, h0⟩ | ⟨g, cap, cur, hv, _, _, h5, h6, _⟩
        · omega
        · exact ⟨g, cap, hv, h5, by unfold maxLen at h6; exact h6, by subst hv; rw [h.cellAt x (by omega), far_get hx, hfx]⟩
      have HFY : Hid (∀ W, Below w1.heap.size w1 W → ∃ g, fa = some ⟨g, 0, none⟩ ∧ ls.length ≤ fc ∧ fc ≤ 2 ^ 63 - 1 ∧ W.cell? ⟨g, y, none⟩ = some (.int .i64 fy)) := fun W h => by
        have hW := own_below HF1.out h
        rcases hW.2 with ⟨_, h0⟩ | ⟨g, cap, cur, hv, _, _, h5, h6, _⟩
        · omega
        · injection hv with e1 _ e3
          subst e1 e3
          exact ⟨g, rfl, h5, by unfold maxLen at h6; exact h6, by rw [hW.cellAt y (by omega), far_get hyl, hfy]⟩
      obtain ⟨p, hp⟩ : ∃ p, lo + k = p := ⟨_, rfl⟩
      rw [hp] at hoc HgA HgB
      have hix : (p : Int) < (l.length : Int) := by omega
      have hle : decide ((p : Int) ≤ (hi : Int)) = true := by rw [decide_eq_true_iff]; have := HSN.out; omega
      have hy2 : (y : Int) < (ls.length : Int) := by omega
      have hx2 : (x : Int) < (ls.length : Int) := by omega
      have HPN : Hid (((lo + (k + 1) : Nat) : Int) = (p : Int) + 1) := by show _ = _; omega
      have HPP : Hid ((intOf (.int .i64 ((p : Int) + 1))).toNat = p + 1) := by show _ = _; simp [intOf]
      have hphi : p ≤ hi := by have := HSN.out; omega
      clear hAF hBF hAP hgA hgB hgN hge hym hrg hy hlk hA hD hP hfx hfy
      rw [hp]
      clear hp
      go_wp2_with fail
      refine (HFA.out wr HBW.out y hyl).mono ?_
      rintro e w2 ⟨v2, rfl, ho2, hb2⟩
      rw [far_len] at ho2
      obtain ⟨gx, cx, rfl, hcx1, hcx2, hcx⟩ := HFX.out w2 _ _ ho2
      have HB2 := Lib.hid (bth HB.out hb2 (Nat.le_refl _))
      have HL2 := Lib.hid (HL.out.below hb2)
      have hB2s := HB2.out.size
      obtain ⟨gy, rfl, hcy1, hcy2, hcy⟩ := HFY.out w2 HB2.out
      clear ho2 hb2 HFX c0 c1 hoc HL HB
      by_cases hfx : fx ≥ 0
      · obtain ⟨e1, e2, e3⟩ := HgA.out hfx
        have E1 := Lib.hid e1
        have E2 := Lib.hid e2
        have E3 := Lib.hid e3
        have dfx : decide (fx ≥ 0) = true := by simpa using hfx
        clear e1 e2 e3 HgA HgB HgN hfx
        go_wp2_with (at_builtin; first
          | (refine wpAppAt rfl _ _ rfl w1.heap.size _ A rfl HL2.out.l1 _ rfl rfl (by omega) hB2s ?_; intro v3 w3 ho3 hg3 hv3
             have HL3 := Lib.hid (HL2.out.t1 hg3 ho3 hv3)
             have HB3 := Lib.hid (HB2.out.trans (below_own HL2.out.l1 hg3 hB2s))
             have hB3s := HB3.out.size
             clear ho3 hg3 hv3)
          | (refine wpAppAt rfl _ _ rfl w1.heap.size _ P rfl HL3.out.l3 _ rfl rfl (by omega) hB3s ?_; intro v4 w4 ho4 hg4 hv4
             have HL4 := Lib.hid (HL3.out.t3 hg4 ho4 hv4)
             have HB4 := Lib.hid (HB3.out.trans (below_own HL3.out.l3 hg4 hB3s))
             clear ho4 hg4 hv4))
        go_roundw
        case rel => exact ⟨k + 1, by omega, by rw [HPN.out], by rw [E1.out, E2.out, E3.out]; exact HL4, HB4⟩
        case measure => rw [HPP.out]; simp [intOf]; omega
      · have hfx' : fx < 0 := by omega
        have dfx : decide (fx ≥ 0) = false := by simpa using hfx
        by_cases hfy : fy ≥ 0
        · obtain ⟨e1, e2, e3⟩ := HgB.out hfx' hfy
          have E1 := Lib.hid e1
          have E2 := Lib.hid e2
          have E3 := Lib.hid e3
          have dfy : decide (fy ≥ 0) = true := by simpa using hfy
          clear e1 e2 e3 HgA HgB HgN hfx hfx' hfy
          go_wp2_with (at_builtin; first
            | (refine wpAppAt rfl _ _ rfl w1.heap.size _ D rfl HL2.out.l2 _ rfl rfl (by omega) hB2s ?_; intro v3 w3 ho3 hg3 hv3
               have HL3 := Lib.hid (HL2.out.t2 hg3 ho3 hv3)
               have HB3 := Lib.hid (HB2.out.trans (below_own HL2.out.l2 hg3 hB2s))
               have hB3s := HB3.out.size
               clear ho3 hg3 hv3)
            | (refine wpAppAt rfl _ _ rfl w1.heap.size _ P rfl HL3.out.l3 _ rfl rfl (by omega) hB3s ?_; intro v4 w4 ho4 hg4 hv4
               have HL4 := Lib.hid (HL3.out.t3 hg4 ho4 hv4)
               have HB4 := Lib.hid (HB3.out.trans (below_own HL3.out.l3 hg4 hB3s))
               clear ho4 hg4 hv4))
          go_roundw
          case rel => exact ⟨k + 1, by omega, by rw [HPN.out], by rw [E1.out, E2.out, E3.out]; exact HL4, HB4⟩
          case measure => rw [HPP.out]; simp [intOf]; omega
        · have hfy' : fy < 0 := by omega
          obtain ⟨e1, e2, e3⟩ := HgN.out hfx' hfy'
          have E1 := Lib.hid e1
          have E2 := Lib.hid e2
          have E3 := Lib.hid e3
          have dfy : decide (fy ≥ 0) = false := by simpa using hfy
          clear e1 e2 e3 HgA HgB HgN hfx hfx' hfy hfy'
          go_wp2_with fail
          go_roundw
          case rel => exact ⟨k + 1, by omega, by rw [HPN.out], by rw [E1.out, E2.out, E3.out]; exact HL2, HB2⟩
          case measure => rw [HPP.out]; simp [intOf]; omega
    · obtain rfl : k = st.length := by omega
      obtain ⟨gd1, gd2⟩ := HGA.out
      have HGD := Lib.hid gd1
      have hla : (aK ls x st st.length).length ≤ 10 := by have := List.length_filter_le (aheadP ls x) (st.take st.length); rw [List.length_take] at this; unfold aK; omega
      have hlb : (bK ls t st st.length).length ≤ 10 := by have := List.length_filter_le (behindP ls t) (st.take st.length); rw [List.length_take] at this; unfold bK; omega
      rw [gd2] at HL
      have hML : M.length ≤ 20 := by have := congrArg List.length gd1; rw [List.length_append] at this; omega
      obtain ⟨p, hp⟩ : ∃ p, lo + st.length = p := ⟨_, rfl⟩
      have hnle : ¬ p ≤ hi := by have := HSN.out; omega
      rw [hp]
      clear hp
      clear gd1 gd2 HGA
      generalize aK ls x st st.length = A at *
      generalize bK ls t st st.length = D at *
      have ha := HL.out.l1
      have hb := HL.out.l2
      obtain ⟨e1v, w2, run1, o1, g1, ka1, hv1⟩ := app_keep A D _ _ w1.heap.size wr ha (RowV.of_own hb) (by omega) (by omega) hB1r 24
      have HL2 := Lib.hid (HL.out.t1 g1 o1 hv1)
      have HB2 := Lib.hid (HB.out.trans (below_own ha g1 hB1r))
      have KA2 := Lib.hid ka1
      have HAP0 := Lib.hid HL.out.ap13
      obtain ⟨aa, ac, hav⟩ := own_slice ha
      obtain ⟨da, dc, hdv⟩ := own_slice hb
      obtain ⟨pa, pc, hpv⟩ := own_slice HL.out.l3
      rw [HGD.out] at o1 HL2
      obtain ⟨ea, ec, hev⟩ := own_slice o1
      subst hev hav hdv hpv
      rw [Ip_len] at *
      have HE := Lib.hid (RowV.of_own o1)
      clear ha hb o1 g1 ka1 hv1 HL HB
      have hB2s := HB2.out.size
      have HBW2 := Lib.hid (bth HB1.out HB2.out (Nat.le_refl _))
      -- what lies, read later
      have hec : M.length ≤ ec ∧ ec ≤ 2 ^ 63 - 1 := by obtain ⟨_, _, h, h3, h4, _⟩ := HE.out.ints; injection h with _ _ h5; unfold maxLen at h4; omega
      obtain ⟨hec1, hec2⟩ := hec
      have hpc : ps.length ≤ pc ∧ pc ≤ 2 ^ 63 - 1 := by obtain ⟨_, _, h, h3, h4, _⟩ := (RowV.of_own HL2.out.l3).ints; injection h with _ _ h5; unfold maxLen at h4; rw [Ip_len] at h3; omega
      obtain ⟨hpc1, hpc2⟩ := hpc
      have HEC : Hid (∀ W, RowV W (.slice ea M.length ec) (I M) → ∀ i (hi : i < M.length), ∃ g o, ea = some ⟨g, o, none⟩ ∧ W.cell? ⟨g, o + i, none⟩ = some (.int .i64 M[i])) := fun W h i hi' => by
        obtain ⟨_, _, e, _, _, hc⟩ := h.ints
        injection e with e1 _ _
        obtain ⟨g, o, e2, _, e3⟩ := hc i hi'
        exact ⟨g, o, by rw [e1, e2], e3⟩
      have HPC : Hid (∀ (W : World) B', W.ownsRow B' 3 1 (.slice pa ps.length pc) (Ip ps).length (I (Ip ps)) → ∀ i (hi : i < ps.length), ∃ g, pa = some ⟨g, 0, none⟩ ∧ W.cell? ⟨g, i, none⟩ = some (.int .i64 ((ps[i] : Nat) : Int))) := fun W B' h i hi' => by
        rw [Ip_len] at h
        rcases h.2 with ⟨_, h0⟩ | ⟨g, cap, cur, hv, _⟩
        · omega
        · injection hv with e1 _ e3
          subst e1 e3
          refine ⟨g, rfl, ?_⟩
          rw [h.cellAt i (by omega), I_at (by rw [Ip_len]; exact hi'), Ip_get hi']
      have HOC : Hid (∀ W, Below w.heap.size w W → ∀ q (hq : q < l.length), W.cell? ⟨gO, q, none⟩ = some (.int .i64 l[q])) := fun W h q hq => by rw [(own_below HO.out h).cellAt q (by omega), I_at hq]
      have RUN1 := Lib.hid run1
      clear run1
      go_wp2_with (at_builtin; refine wpList_runApp rfl _ _ rfl rfl rfl RUN1.out ?_)
      go_loopw [15, 80] (fun mv i wr2 => ∃ k : Nat, k ≤ M.length ∧ i = .int .i64 k ∧ Hid (wr2.ownsRow w2.heap.size 3 1 mv (movK l ((ps.zip M).take k)).length (I (movK l ((ps.zip M).take k)))) ∧ Hid (Below w2.heap.size w2 wr2)) (fun _ i _ => M.length - (intOf i).toNat)
      case atStart => exact ⟨0, Nat.zero_le _, rfl, ⟨rfl, .inl ⟨rfl, rfl⟩⟩, Below.refl _ _⟩
      case round =>
        obtain ⟨k, hk2, rfl, HN, HB3⟩ := hrel
        have HB13 := Lib.hid (bth HB2.out HB3.out (Nat.le_refl _))
        have HBW3 := Lib.hid (bth HB1.out HB13.out (Nat.le_refl _))
        have hs3 := HB3.out.size
        by_cases hkM : k < M.length
        · have hkp : k < ps.length := by have := HP3.out; omega
          obtain ⟨ge, oe, rfl, hce⟩ := HEC.out _ (HE.out.below HB3.out) k hkM
          obtain ⟨gp, rfl, hcp⟩ := HPC.out _ _ (own_below HL2.out.l3 HB3.out) k hkp
          have hql := HP4.out _ (List.getElem_mem hkp)
          have hco := HOC.out _ HBW3.out ps[k] hql
          obtain ⟨c0, c1⟩ := (P0.out.below (bth K1.out HB13.out (Nat.le_refl _)) hsa).cells
          have hzl : k < (ps.zip M).length := by rw [List.length_zip]; omega
          have hzk : (ps.zip M).take (k + 1) = (ps.zip M).take k ++ [(ps[k], M[k])] := by rw [List.take_succ_eq_append_getElem hzl, List.getElem_zip]
          have hql2 : ((ps[k] : Nat) : Int) < (l.length : Int) := by omega
          have hkp2 : (k : Int) < (ps.length : Int) := by omega
          have hml := movK_len l ((ps.zip M).take k)
          have hml2 : ((ps.zip M).take k).length ≤ 20 := by rw [List.length_take, List.length_zip]; omega
          by_cases he : l[ps[k]] = M[k]
          · have HK : Hid (movK l ((ps.zip M).take (k + 1)) = movK l ((ps.zip M).take k)) := by show _ = _; rw [hzk, movK_snoc, if_pos (by rw [getD_in hql]; exact he)]
            have ne : (l[ps[k]] != M[k]) = false := by simp [he]
            clear hzk he
            generalize l[ps[k]] = lx at *
            generalize M[k] = mx at *
            generalize ps[k] = pk at *
            go_wp2_with fail
            go_quiet (fail)
            go_wp2_with fail
            go_roundw
            case rel => exact ⟨k + 1, by omega, by go_num, by rw [HK.out]; exact HN.out, below_drewN HB3.out _⟩
            case measure => simp [intOf]; omega
          · have HK : Hid (movK l ((ps.zip M).take (k + 1)) = putL (movK l ((ps.zip M).take k)) M[k]) := by show _ = _; rw [hzk, movK_snoc, if_neg (by rw [getD_in hql]; exact he)]
            have ne : (l[ps[k]] != M[k]) = true := by simp [he]
            clear hzk he
            generalize l[ps[k]] = lx at *
            generalize M[k] = mx at *
            generalize ps[k] = pk at *
            have HPU : Hid (∀ n, Calls Try.prog 98 #[_, .int .i64 mx] (wr.drewN n) (IntsPost w2.heap.size (putL (movK l ((ps.zip M).take k)) mx) (wr.drewN n))) := fun n => l1Put_any (movK l ((ps.zip M).take k)) mx w2.heap.size _ (wr.drewN n) HN.out hs3 (by omega)
            go_wp2_with fail
            go_quiet (fail)
            go_wp2_with fail
            refine (HPU.out _).mono ?_
            rintro e w4 ⟨v4, rfl, ho4, hb4⟩
            have HO4 := Lib.hid ho4
            have HB4 := Lib.hid (bth (below_drewN HB3.out _) hb4 (Nat.le_refl _))
            clear ho4 hb4 HPU
            go_wp2_with fail
            go_roundw
            case rel => exact ⟨k + 1, by omega, by go_num, by rw [HK.out]; exact HO4.out, HB4⟩
            case measure => simp [intOf]; omega
        · obtain rfl : k = M.length := by omega
          rw [List.take_of_length_le (by rw [List.length_zip]; have := HP3.out; omega)] at HN
          have hOL : l.length ≤ 1000 := by have := HLL.out; omega
          obtain ⟨qa, qc, w4, run4, o4, hb4⟩ := lit_row l (some ⟨gO, 0, none⟩) cO wr _ rfl (HRO.out.below HBW3.out) hOL 24
          obtain ⟨gW, rfl⟩ : ∃ gW, qa = some ⟨gW, 0, none⟩ := by
            rcases o4.2 with ⟨_, h0⟩ | ⟨g, cap, cur, hv, _⟩
            · omega
            · injection hv with e1 _ _; exact ⟨g, e1⟩
          have hqc : l.length ≤ qc ∧ qc ≤ 2 ^ 63 - 1 := by obtain ⟨_, _, h, h3, h4, _⟩ := (RowV.of_own o4).ints; injection h with _ _ h5; unfold maxLen at h4; omega
          obtain ⟨hqc1, hqc2⟩ := hqc
          have hgW := o4.lt gW rfl
          have ka4 := own_below (own_below KA2.out HB3.out) hb4
          have hB4s : w1.heap.size ≤ w4.heap.size := Nat.le_trans HB13.out.size hb4.size
          obtain ⟨e2v, w5, run5, o5, g5, _, hv5⟩ := app_keep A D _ _ w1.heap.size w4 ka4 (RowV.of_own (own_below (own_below HL2.out.l2 HB3.out) hb4)) (by omega) (by omega) hB4s 24
          have HWS5 := Lib.hid (own_apartI o4 g5 (fun b h1 h2 => by have := (KA2.out.lt b h1).2; have := (o4.lt b h2).1; omega))
          have HPS5 := Lib.hid (own_apartI (own_below (own_below HL2.out.l3 HB3.out) hb4) g5 HAP0.out)
          have HMV5 := Lib.hid (own_apartI (own_below HN.out hb4) g5 (fun b h1 h2 => by have := (KA2.out.lt b h1).2; have := (HN.out.lt b h2).1; omega))
          have HB5 := Lib.hid ((bth HB13.out hb4 (Nat.le_refl _)).trans (below_own ka4 g5 hB4s))
          have HEW : Hid (∀ b, e2v.ownBlock = some b → b ≠ gW) := fun b h e => by
            rcases hv5 b h with h1 | h1
            · have := (KA2.out.lt b h1).2; omega
            · omega
          have HPW : Hid (∀ b, (Value.slice pa ps.length pc).ownBlock = some b → b ≠ gW) := fun b h e => by have := (HL2.out.l3.lt b h).2; omega
          have HMW := Lib.hid (fun b h => (HN.out.lt b h))
          rw [HGD.out] at o5
          obtain ⟨ea2, ec2, hev2⟩ := own_slice o5
          subst hev2
          have HE5 := Lib.hid o5
          have hec3 : M.length ≤ ec2 ∧ ec2 ≤ 2 ^ 63 - 1 := by obtain ⟨_, _, h, h3, h4, _⟩ := (RowV.of_own o5).ints; injection h with _ _ h5; unfold maxLen at h4; omega
          obtain ⟨hec3, hec4⟩ := hec3
          have RUN4 := Lib.hid run4
          have RUN5 := Lib.hid run5
          have hgW1 := hgW.1
          have hw12 : w1.heap.size ≤ w2.heap.size := hB2s
          obtain ⟨c0, c1⟩ := (P0.out.below (bth K1.out HB13.out (Nat.le_refl _)) hsa).cells
          obtain ⟨mva, mvc, hmvv⟩ := own_slice HN.out
          subst hmvv
          generalize hR : movK l (ps.zip M) = R at *
          have HRR := Lib.hid hR
          have hPlt := Nat.lt_of_lt_of_le hsa (Nat.le_trans hs1 HB13.out.size)
          clear hR run4 run5 o4 hb4 ka4 g5 hv5 o5 HN
          go_upto_region 25 with (at_builtin; refine wpList_runApp rfl _ _ rfl rfl rfl RUN4.out ?_)
          clear c0 c1
          go_wp2_with (at_builtin; refine wpList_runApp rfl _ _ rfl rfl rfl RUN5.out ?_)
          go_loopw [107] (fun i wz => ∃ k : Nat, k ≤ M.length ∧ i = .int .i64 k ∧ Hid (wz.ownsRow wr.heap.size 3 1 (.slice (some ⟨gW, 0, none⟩) l.length qc) l.length (I (newO l (ps.take k) (M.take k)))) ∧ Hid (w5.grownBy wz (some gW))) (fun i _ => M.length - (intOf i).toNat)
          case atStart => exact ⟨0, Nat.zero_le _, rfl, HWS5, grown_refl _ _⟩
          case round =>
            obtain ⟨k, hk3, rfl, HOZ, HGZ⟩ := hrel
            by_cases hkM : k < M.length
            · have hkp : k < ps.length := by have := HP3.out; omega
              have hgz : w5.grownBy _ (Value.slice (some ⟨gW, 0, none⟩) 0 0).ownBlock := HGZ.out
              obtain ⟨ge, oe, rfl, hce⟩ := rowv_at (RowV.of_own (own_apartI HE5.out hgz (fun b h1 h2 => HEW.out b h2 (by simpa [Value.ownBlock] using h1.symm)))) k hkM
              obtain ⟨gp, rfl, hcp⟩ := HPC.out _ _ (own_apartI HPS5.out hgz (fun b h1 h2 => HPW.out b h2 (by simpa [Value.ownBlock] using h1.symm))) k hkp
              have hql := HP4.out _ (List.getElem_mem hkp)
              have HE : Hid (newO l (ps.take (k + 1)) (M.take (k + 1)) = (newO l (ps.take k) (M.take k)).set ps[k] M[k]) := newO_snoc hkp hkM
              have hnl := newO_len (ps.take k) (M.take k) l
              generalize newO l (ps.take k) (M.take k) = lo1 at *
              have hfz := HOZ.out.frozenAt ps[k]
              have hcz : ∃ old, World.cell? _ ⟨gW, ps[k], none⟩ = some (.int .i64 old) := ⟨lo1.getD ps[k] 0, by rw [HOZ.out.cellAt ps[k] (by omega), I_at (by omega), getD_in (by omega)]⟩
              obtain ⟨old, hcz⟩ := hcz
              have hstr := HOZ.out.stored ps[k] (.int .i64 M[k])
              rw [I_set, ← HE.out] at hstr
              have HO1 := Lib.hid hstr.1
              have HG1 := Lib.hid (grown_trans HGZ.out hstr.2)
              have hql2 : ((ps[k] : Nat) : Int) < (l.length : Int) := by omega
              have hkp2 : (k : Int) < (ps.length : Int) := by omega
              clear hstr HE hnl hgz HOZ HGZ
              generalize M[k] = mx at *
              generalize ps[k] = pk at *
              go_wp2_with fail
              go_roundw
              case rel => exact ⟨k + 1, by omega, by go_num, HO1, HG1⟩
              case measure => simp [intOf]; omega
            · obtain rfl : k = M.length := by omega
              rw [List.take_of_length_le (by have := HP3.out; omega), List.take_length] at HOZ
              have hRL := newO_len ps M l
              have hgz : w5.grownBy _ (Value.slice (some ⟨gW, 0, none⟩) 0 0).ownBlock := HGZ.out
              have hbz := below_own (own_base HWS5.out (by omega : w1.heap.size ≤ _)) HGZ.out (by have := HB5.out.size; exact this)
              have HBZ := Lib.hid (HB5.out.trans hbz)
              have HMZ := Lib.hid (own_apartI HMV5.out hgz (fun b h1 h2 => by have := (HMW.out b h2).2; have e : gW = b := (by simpa [Value.ownBlock] using h1); omega))
              have hsrc := RowV.of_own HOZ.out
              rw [← hRL] at hsrc
              obtain ⟨w7, run7, o7, g7⟩ := copy_own l (newO l ps M) (some ⟨gW, 0, none⟩) qc gO cO B _ hsrc (own_below HO.out (bth HB1.out HBZ.out (Nat.le_refl _))) hRL (by omega)
              rw [hRL] at run7
              have HO7 := Lib.hid o7
              have HM7 := Lib.hid (own_apartI HMZ.out (u := .slice (some ⟨gO, 0, none⟩) 0 0) g7 (fun b h1 h2 => by have := (HMW.out b h2).1; have e : gO = b := (by simpa [Value.ownBlock] using h1); have := HBW2.out.size; omega))
              have HG7 := Lib.hid (grown_trans (below_grown (r := some gO) (bth HB1.out HBZ.out (Nat.le_refl _))) g7)
              obtain ⟨c0, c1⟩ := (P0.out.below (bth K1.out HBZ.out (Nat.le_refl _)) hsa).cells
              have hbase : w.heap.size ≤ w2.heap.size := HBW2.out.size
              clear hsrc o7 g7 hgz hbz hRL HOZ HGZ
              go_wp2_with fail
              go_ret
              exact ⟨_, rfl, by rw [HRR.out]; exact own_base HM7.out hbase, HO7.out, HG7.out⟩

end Go.Proofs.Ytgolhfmmlanmlaa

/- l5Mend as AddNeed wants it; how large AddNeed's answers are. -/
namespace Go.Proofs.Ytgolhfmmlanmlaa
open Go.RowKit Pth

theorem mendC : MendC := by
  intro ls l t x B gO cO nv w hst hown hG ht hx hloop
  by_cases h : pos l (x : Int) < pos l (t : Int)
  · exact l5Mend_no ls l t x B gO cO nv w hst hown hG ht hx h
  · exact l5Mend_yes ls l t x B gO cO nv w hst hown hG ht hx hloop (by omega)
theorem total_by {c : Nat} : ∀ m : List (List Int), (∀ k (hk : k < m.length), m[k].length ≤ c) → total m ≤ c * m.length := by
  intro m
  induction m with
  | nil => intro _; simp [total]
  | cons y q ih =>
    intro h
    have h0 := h 0 (by simp)
    have h1 := ih (fun k hk => by have := h (k + 1) (by simp; omega); simpa using this)
    simp only [List.getElem_cons_zero] at h0
    simp only [total, List.map_cons, List.sum_cons, List.length_cons, Nat.mul_add, Nat.mul_one] at h1 ⊢
    omega
theorem mendO_len (ls : List (List Int)) (l : List Int) (t x : Int) : (mendO ls l t x).length = l.length := by
  unfold mendO
  split
  · rfl
  · exact newO_len _ _ _
theorem add_small (ls : List (List Int)) (l : List Int) (t x : Int) : (addG ls l t x).length + total (addG ls l t x) + (addO ls l t x).length ≤ 1000 := by
  rcases h : addOk ls l t x with _ | _
  · rw [(add_no h).1, (add_no h).2.1]; simp [total]
  · rw [(add_yes h).1, (add_yes h).2.1]
    obtain ⟨hb0, hb1, _, _, _⟩ := add_parts h
    have hG := goodG_iff.1 hb0
    simp only [Bool.and_eq_true, decide_eq_true_eq] at hb1
    obtain ⟨j, rfl⟩ : ∃ j : Nat, t = j := ⟨t.toNat, by omega⟩
    have hj : j < ls.length := by omega
    have h10 : ∀ k (hk : k < ls.length), ls[k].length ≤ 10 := fun k hk => by
      have hw := (hG.each k hk).1
      have := rise_len hw.1 hw.2 (by have := hG.low; omega)
      have := hG.high
      omega
    have hs := hG.same
    have hh := hG.high
    rw [needsAt_get hj, show ((j : Int)).toNat = j by omega, mendO_len]
    have := total_by (c := 11) (ls.set j (putL ls[j] x)) (fun k hk => by
      rw [List.length_set] at hk
      rw [List.getElem_set]
      split
      · have := put_len ls[j] x; have := h10 j hj; omega
      · have := h10 k hk; omega)
    rw [List.length_set] at this ⊢
    omega
theorem add_short (ls : List (List Int)) (l : List Int) (t x : Int) : (addM ls l t x).length ≤ 1000 := by
  rcases h : addOk ls l t x with _ | _
  · rw [(add_no h).2.2]
    split
    · rename_i hp
      unfold addPre at hp
      rw [Bool.and_eq_true, Bool.and_eq_true, Bool.and_eq_true] at hp
      obtain ⟨⟨⟨hb0, hb1⟩, hb2⟩, _⟩ := hp
      have hG := goodG_iff.1 hb0
      simp only [Bool.and_eq_true, decide_eq_true_eq] at hb2
      unfold loopL
      by_cases hn : farI ls t x < 0
      · rw [if_pos hn]; simp
      · rw [if_neg hn, wayL_len]
        have := far_small (t := t) hG hb2
        have := hG.high
        omega
    · simp
  · rw [(add_yes h).2.2, sortI_len]
    obtain ⟨hb0, _, _, _, _⟩ := add_parts h
    have hG := goodG_iff.1 hb0
    have := movedL_len l (mendO ls l t x)
    have := hG.same
    have := hG.high
    omega
end Go.Proofs.Ytgolhfmmlanmlaa

/- Walks: a need that is dropped. -/
namespace Go.Proofs.Ytgolhfmmlanmlaa
open Go.RowKit Pth

/-- There is such a need. -/
noncomputable def dropOk (ls : List (List Int)) (l : List Int) (t x : Int) : Bool := taskG ls l t && hasL (needsAt ls t) x
noncomputable def dropG (ls : List (List Int)) (l : List Int) (t x : Int) : List (List Int) := if dropOk ls l t x then ls.set t.toNat (dropL (needsAt ls t) x) else []
noncomputable def dropO (ls : List (List Int)) (l : List Int) (t x : Int) : List Int := if dropOk ls l t x then l else []
theorem drop_no {ls : List (List Int)} {l : List Int} {t x : Int} (h : dropOk ls l t x = false) : dropG ls l t x = [] ∧ dropO ls l t x = [] := by
  unfold dropG dropO; rw [h]; exact ⟨rfl, rfl⟩
theorem drop_yes {ls : List (List Int)} {l : List Int} {t x : Int} (h : dropOk ls l t x = true) : dropG ls l t x = ls.set t.toNat (dropL (needsAt ls t) x) ∧ dropO ls l t x = l := by
  unfold dropG dropO; rw [h]; exact ⟨rfl, rfl⟩

end Go.Proofs.Ytgolhfmmlanmlaa

/- Walks: a need that is dropped, as the reference has it. -/
namespace Go.Proofs.Ytgolhfmmlanmlaa
open Go.RowKit Pth

theorem drop_keep {l : List Int} {x : Int} {k : Nat} (hk : k < l.length) (h : l[k] ≠ x) : dropL (l.take (k + 1)) x = dropL (l.take k) x ++ [l[k]] := by
  unfold dropL
  rw [List.take_succ_eq_append_getElem hk, List.filter_append]
  simp [h]
theorem drop_skip {l : List Int} {x : Int} {k : Nat} (hk : k < l.length) (h : l[k] = x) : dropL (l.take (k + 1)) x = dropL (l.take k) x := by
  unfold dropL
  rw [List.take_succ_eq_append_getElem hk, List.filter_append]
  simp [h]
theorem drop_len (l : List Int) (x : Int) : (dropL l x).length ≤ l.length := List.length_filter_le _ _

set_option maxRecDepth 20000 in
set_option maxHeartbeats 8000000 in
theorem specDrop_any (ls : List (List Int)) (l : List Int) (t x : Int) (v : Value) (w : World) (hst : GraphV w v ls l) :
    Calls Try.prog 86 #[v, .int .i64 t, .int .i64 x] w (GraphOk (dropG ls l t x) (dropO ls l t x) (dropOk ls l t x) w) := by
  have HV := Lib.hid hst
  obtain ⟨nv, ov, rfl, h1, h2⟩ := hst
  have H1 := Lib.hid h1
  obtain ⟨an, cn, rfl, hn1, hn2, hat⟩ := h1.lists
  obtain ⟨ao, co, rfl, ho1, ho2, _⟩ := h2.ints
  clear h1 h2
  unfold maxLen at hn2 ho2
  obtain ⟨W0, hW0⟩ : ∃ W0, W0 = (w.alloc (.cells #[.slice an ls.length cn, .slice ao l.length co] 26)).alloc (.cells #[.slice none 0 0, .slice none 0 0] 26) := ⟨_, rfl⟩
  have e1 : (w.alloc (.cells #[.slice an ls.length cn, .slice ao l.length co] 26)).heap.size = w.heap.size + 1 := by simp
  have P0 : Hid (Blk2 W0 w.heap.size 26 (.slice an ls.length cn) (.slice ao l.length co)) := by rw [hW0]; exact Blk2.new.old _
  have R0 : Hid (Blk2 W0 (w.heap.size + 1) 26 (.slice none 0 0) (.slice none 0 0)) := by
    have := Blk2.new (w := w.alloc (.cells #[.slice an ls.length cn, .slice ao l.length co] 26)) (t := 26) (x := .slice none 0 0) (y := .slice none 0 0)
    rw [e1] at this
    rw [hW0]; exact this
  have HB0 : Hid (Below w.heap.size w W0) := by rw [hW0]; exact ((Below.refl w.heap.size w).alloc (Nat.le_refl _) _).alloc (by rw [e1]; omega) _
  have hz0 : w.heap.size + 2 ≤ W0.heap.size := by rw [hW0]; simp
  have HZ0 := Lib.hid hz0
  have HW0 := Lib.hid hW0
  clear hW0 e1 hz0
  obtain ⟨c0, c1⟩ := P0.out.cells
  have HC := l5Task_any ls l t _ W0 (HV.out.below HB0.out)
  rcases hT : taskG ls l t with _ | _
  · have hd : dropOk ls l t x = false := by unfold dropOk; rw [hT]; rfl
    rw [hd, (drop_no hd).1, (drop_no hd).2]
    rw [hT] at HC
    have HCC := Lib.hid HC
    clear HC hT hat hd
    go_enter Try.func86, Try.ntmps86
    go_wp2_with fail
    rw [← HW0.out]
    refine HCC.out.mono ?_
    rintro e w1 ⟨rfl, hb1⟩
    have HB1 := Lib.hid (bth HB0.out hb1 (Nat.le_refl _))
    have R1 := Lib.hid (R0.out.below hb1 (by have := HZ0.out; omega))
    clear hb1 c0 c1
    have q0 := R1.out.cells.1
    have q1 := R1.out.cells.2
    have f0 := R1.out.soft 0
    have f1 := R1.out.soft 1
    have HZ := Lib.hid ((R1.out.set0 (.slice none 0 0)).set1 (.slice none 0 0))
    go_wp2_with fail
    refine bodyPost_ret (results_cell2 rfl rfl (load_store2 HZ.out.cells.1 HZ.out.cells.2)) rfl ?_
    exact ⟨_, rfl, GraphO.none _ _, (HB1.out.setCell (p := ⟨w.heap.size + 1, 0, none⟩) (by show w.heap.size ≤ w.heap.size + 1; omega) _).setCell (p := ⟨w.heap.size + 1, 1, none⟩) (by show w.heap.size ≤ w.heap.size + 1; omega) _⟩
  · rw [hT] at HC
    have HCC := Lib.hid HC
    obtain ⟨hGG, ht0, ht1⟩ := taskG_yes hT
    have HGG := Lib.hid hGG
    obtain ⟨j, rfl⟩ : ∃ j : Nat, t = j := ⟨t.toNat, by omega⟩
    have hj : j < ls.length := by omega
    obtain ⟨g, o, a2, c2, rfl, hg, hcell0, hrk⟩ := hat j hj
    have HRK := Lib.hid hrk
    have hkk : dropOk ls l (j : Int) x = hasL ls[j] x := by unfold dropOk; rw [hT, needsAt_get hj]; rfl
    have hj2 : (j : Int) < (ls.length : Int) := by omega
    have HHX := fun W (h : RowV W (.slice a2 ls[j].length c2) (I ls[j])) => l1Has_any ls[j] x _ W h
    rcases hm : hasL ls[j] x with _ | _
    · rw [hm] at hkk HHX
      rw [hkk, (drop_no hkk).1, (drop_no hkk).2]
      have HIX := Lib.hid HHX
      clear HC hT hat hkk hm hrk HHX hGG
      go_enter Try.func86, Try.ntmps86
      go_wp2_with fail
      rw [← HW0.out]
      refine HCC.out.mono ?_
      rintro e w1 ⟨rfl, hb1⟩
      have HB1 := Lib.hid (bth HB0.out hb1 (Nat.le_refl _))
      have P1 := Lib.hid (P0.out.below hb1 (by have := HZ0.out; omega))
      have R1 := Lib.hid (R0.out.below hb1 (by have := HZ0.out; omega))
      have hcell : w1.cell? ⟨g, o + j, none⟩ = some (.slice a2 ls[j].length c2) := by rw [HB1.out.cell (p := ⟨g, o + j, none⟩) hg]; exact hcell0
      have HX1 := Lib.hid (HIX.out w1 (HRK.out.below HB1.out))
      clear hb1 c0 c1
      obtain ⟨d0, d1⟩ := P1.out.cells
      generalize hnj : ls[j].length = nj at hcell HX1 HIX
      go_wp2_with fail
      refine HX1.out.mono ?_
      rintro e w2 ⟨rfl, rfl⟩
      have q0 := R1.out.cells.1
      have q1 := R1.out.cells.2
      have f0 := R1.out.soft 0
      have f1 := R1.out.soft 1
      have HZ := Lib.hid ((R1.out.set0 (.slice none 0 0)).set1 (.slice none 0 0))
      go_wp2_with fail
      refine bodyPost_ret (results_cell2 rfl rfl (load_store2 HZ.out.cells.1 HZ.out.cells.2)) rfl ?_
      exact ⟨_, rfl, GraphO.none _ _, (HB1.out.setCell (p := ⟨w.heap.size + 1, 0, none⟩) (by show w.heap.size ≤ w.heap.size + 1; omega) _).setCell (p := ⟨w.heap.size + 1, 1, none⟩) (by show w.heap.size ≤ w.heap.size + 1; omega) _⟩
    · rw [hm] at hkk HHX
      have HD1 := Lib.hid (drop_yes hkk).1
      rw [hkk, (drop_yes hkk).2]
      have HIX := Lib.hid HHX
      have hjl : ls[j].length ≤ 10 := by
        have hw := (hGG.each j hj).1
        have := rise_len hw.1 hw.2 (by omega)
        have := hGG.high
        omega
      have HLS : Hid (ls.length + total ls + l.length ≤ 1000) := by
        have h10 := HGG.out.high
        have hs := HGG.out.same
        have : ∀ m : List (List Int), (∀ k (hk : k < m.length), m[k].length ≤ 10) → total m ≤ 10 * m.length := by
          intro m
          induction m with
          | nil => intro _; simp [total]
          | cons y q ih =>
            intro h
            have h0 := h 0 (by simp)
            have h1 := ih (fun k hk => by have := h (k + 1) (by simp; omega); simpa using this)
            simp only [List.getElem_cons_zero] at h0
            simp only [total, List.map_cons, List.sum_cons, List.length_cons] at h1 ⊢
            omega
        have hk := this ls (fun k hk => by
          have hw := (HGG.out.each k hk).1
          have := rise_len hw.1 hw.2 (by omega)
          omega)
        show _ ≤ _
        omega
      have HOG := Lib.hid (fun W (h : GraphV W _ ls l) => l5Own_any ls l (.agg #[.slice (some ⟨g, o, none⟩) ls.length cn, .slice ao l.length co]) W h HLS.out)
      rw [needsAt_get hj, show ((j : Int)).toNat = j by omega] at HD1
      rw [HD1.out]
      obtain ⟨a3, c3, he3, hr1, hr2, hatk⟩ := hrk.ints
      injection he3 with he3 _ he4
      subst he3 he4
      unfold maxLen at hr2
      clear HC hT hat hkk hm hrk HHX hGG HD1
      go_enter Try.func86, Try.ntmps86
      go_wp2_with fail
      rw [← HW0.out]
      refine HCC.out.mono ?_
      rintro e w1 ⟨rfl, hb1⟩
      have HB1 := Lib.hid (bth HB0.out hb1 (Nat.le_refl _))
      have P1 := Lib.hid (P0.out.below hb1 (by have := HZ0.out; omega))
      have R1 := Lib.hid (R0.out.below hb1 (by have := HZ0.out; omega))
      have s1 := Nat.le_trans HZ0.out hb1.size
      have hcell : w1.cell? ⟨g, o + j, none⟩ = some (.slice a2 ls[j].length c2) := by rw [HB1.out.cell (p := ⟨g, o + j, none⟩) hg]; exact hcell0
      have HX1 := Lib.hid (HIX.out w1 (HRK.out.below HB1.out))
      clear hb1 c0 c1
      obtain ⟨d0, d1⟩ := P1.out.cells
      go_wp2_with fail
      refine HX1.out.mono ?_
      rintro e w2 ⟨rfl, rfl⟩
      go_wp2_with fail
      refine (HOG.out _ (HV.out.below HB1.out)).mono ?_
      rintro e w4 ⟨v4, rfl, ho4, hb4⟩
      have HB4 := Lib.hid (bth HB1.out hb4 (Nat.le_refl _))
      have R4 := Lib.hid (R1.out.below hb4 (by omega))
      have P4 := Lib.hid (P1.out.below hb4 (by omega))
      have s4 := Nat.le_trans s1 hb4.size
      have s14 := hb4.size
      obtain ⟨nv, ov, sl, hv4, hs4, hn4, hL4⟩ := ho4
      obtain ⟨b1, d1', rfl⟩ := own_slice hn4
      obtain ⟨b2, d2', hov⟩ := own_slice (hL4.1 (ov, l) (List.mem_append.2 (.inr (List.mem_singleton.2 rfl))))
      simp only at hov
      subst hov hv4
      obtain ⟨w5, hw5⟩ : ∃ w5, w5 = w4.alloc (.cells #[.slice b1 ls.length d1', .slice b2 l.length d2'] 26) := ⟨_, rfl⟩
      have hA5 : Below w4.heap.size w4 w5 := by rw [hw5]; exact (Below.refl w4.heap.size w4).alloc (Nat.le_refl _) _
      have G5 : Hid (Blk2 w5 w4.heap.size 26 (.slice b1 ls.length d1') (.slice b2 l.length d2')) := by rw [hw5]; exact Blk2.new
      have HN5 := Lib.hid (own_below hn4 hA5)
      have HL5 := Lib.hid (hL4.below hA5)
      have HB5 := Lib.hid (bth HB4.out hA5 (Nat.le_refl _))
      have R5 := Lib.hid (R4.out.below hA5 (by omega))
      have P5 := Lib.hid (P4.out.below hA5 (by omega))
      have hsj : j < sl.length := by omega
      obtain ⟨gN, hb1, hc1⟩ : ∃ gN, b1 = some ⟨gN, 0, none⟩ ∧ ls.length ≤ d1' := by
        rcases HN5.out.2 with ⟨_, h0⟩ | ⟨gN, cap, cur, hv, _, _, hcap, _⟩
        · omega
        · injection hv with hv1 _ hv3; exact ⟨gN, hv1, by omega⟩
      subst hb1
      have s45 : w5.heap.size = w4.heap.size + 1 := by rw [hw5]; simp
      have HS45 := Lib.hid s45
      have Hw5 := Lib.hid hw5
      have hcell5 : w5.cell? ⟨g, o + j, none⟩ = some (.slice a2 ls[j].length c2) := by rw [HB5.out.cell (p := ⟨g, o + j, none⟩) hg]; exact hcell0
      obtain ⟨x0, x1⟩ := P4.out.cells
      obtain ⟨y0, y1⟩ := P5.out.cells
      clear hb4 hA5 hn4 hL4 hw5 d0 d1 hcell s45
      have z4 : w.heap.size < w4.heap.size := by omega
      have hcell4 : w4.cell? ⟨g, o + j, none⟩ = some (.slice a2 ls[j].length c2) := by rw [HB4.out.cell (p := ⟨g, o + j, none⟩) hg]; exact hcell0
      have hg4 : g < w4.heap.size := Nat.lt_of_lt_of_le hg HB4.out.size
      go_wp2_with fail
      rw [← Hw5.out]
      clear x0 x1 y0 y1 hcell5 hcell4 hg4
      go_loopw [9, 35] (fun q i wr => ∃ k : Nat, k ≤ ls[j].length ∧ i = .int .i64 k ∧ Hid (wr.ownsRow w5.heap.size 3 1 q (dropL (ls[j].take k) x).length (I (dropL (ls[j].take k) x))) ∧ Hid (Below w5.heap.size w5 wr)) (fun _ i _ => ls[j].length - (intOf i).toNat)
      case atStart => exact ⟨0, Nat.zero_le _, rfl, none_ownZ _ _ _, Below.refl _ _⟩
      case round =>
        obtain ⟨k, hk, rfl, HN, HB⟩ := hrel
        have hcl := drop_len (ls[j].take k) x
        rw [List.length_take] at hcl
        by_cases hlt : k < ls[j].length
        · obtain ⟨g3, o3, rfl, hg3, hcell3⟩ := hatk k hlt
          have hcw : wr.cell? ⟨g3, o3 + k, none⟩ = some (.int .i64 ls[j][k]) := by rw [HB.out.cell (p := ⟨g3, o3 + k, none⟩) (Nat.lt_of_lt_of_le hg3 HB5.out.size), HB5.out.cell (p := ⟨g3, o3 + k, none⟩) hg3]; exact hcell3
          clear hcell3 hatk
          by_cases hx : ls[j][k] = x
          · have HE := Lib.hid (drop_skip hlt hx)
            have hx1 : (ls[j][k] != x) = false := by simp [hx]
            generalize ls[j][k] = y at *
            clear hx
            go_wp2_with fail
            go_roundw
            case rel => exact ⟨k + 1, by omega, by go_num, by rw [HE.out]; exact HN.out, HB⟩
            case measure => simp [intOf]; omega
          · have HE := Lib.hid (drop_keep hlt hx)
            have hx1 : (ls[j][k] != x) = true := by simp [hx]
            have HNA := Lib.hid (own_Z HN.out)
            have hIl : (I (dropL (ls[j].take k) x)).length ≤ 1000000 := by rw [I_len]; omega
            have hbs := HB.out.size
            generalize ls[j][k] = y at *
            generalize dropL (ls[j].take k) x = m at *
            clear hx HN
            go_wp2_with (at_builtin; refine wpAppOne elemI rfl _ _ rfl w5.heap.size _ (I m) rfl HNA.out _ rfl rfl rfl hIl hbs ?_; intro v7 w7 hown7 hg7; have HN7 := Lib.hid (own_Z2 hown7); have HB7 := Lib.hid (HB.out.trans (below_own HNA.out hg7 hbs)); clear hown7 hg7)
            go_roundw
            case rel => exact ⟨k + 1, by omega, by go_num, by rw [HE.out]; exact HN7.out, HB7⟩
            case measure => simp [intOf]; omega
        · rw [List.take_of_length_le (by omega)] at HN
          obtain ⟨za, zc, hq⟩ := own_slice HN.out
          have h4s : w4.heap.size < w5.heap.size := by have := HS45.out; omega
          have G6 := Lib.hid (G5.out.below HB.out h4s)
          have HN6 := Lib.hid (own_below HN5.out HB.out)
          have R6 := Lib.hid (R5.out.below HB.out (by omega))
          have g6 := G6.out.cells.1
          have hsl : ∃ u, sl[j]? = some u := ⟨sl[j], List.getElem?_eq_getElem hsj⟩
          obtain ⟨u6, hu6⟩ := hsl
          have hr6 : wr.cell? ⟨gN, j, none⟩ = some u6 := by rw [HN6.out.cellAt j (by omega), hu6]
          have hf6 := HN6.out.frozenAt j
          have nN : gN ≠ w4.heap.size := fun e => blk_ne G6.out HN6.out (by decide) gN rfl e.symm
          have hgN := (HN6.out.lt gN rfl).1
          have hst := HN6.out.stored j (.slice za (dropL ls[j] x).length zc)
          have hown := HN.out
          rw [hq] at hown
          have hLp := HL5.out.put (w' := wr) (u := .slice za (dropL ls[j] x).length zc) (x := dropL ls[j] x) hs4 hj (below_grown HB.out) (own_base hown (by omega)) (fun i hi => .inr (hown.lt i hi).1)
          have HL7 := Lib.hid (hLp.outer HN6.out (by decide) hst.2)
          have HN7 := Lib.hid hst.1
          have G7 := Lib.hid (G6.out.beside hst.2 (fun e => nN (Option.some.inj e)))
          have R7 := Lib.hid (R6.out.beside hst.2 (fun e => by have := Option.some.inj e; omega))
          have HB7 := Lib.hid ((HB5.out.trans (HB.out.mono HB5.out.size)).trans (only_below hst.2 (by omega) (Nat.le_trans HB5.out.size HB.out.size)))
          have x0 := G7.out.cells.1
          have x1 := G7.out.cells.2
          have q0 := R7.out.cells.1
          have q1 := R7.out.cells.2
          have f0 := R7.out.soft 0
          have f1 := R7.out.soft 1
          have HZ := Lib.hid ((R7.out.set0 (.slice (some ⟨gN, 0, none⟩) ls.length d1')).set1 (.slice b2 l.length d2'))
          have hz : w.heap.size + 1 < w1.heap.size := by omega
          subst hq
          clear hst hLp hown hu6 hatk
          generalize hdl : dropL ls[j] x = dl at *
          have HDL := Lib.hid hdl
          clear hdl
          go_wp2_with fail
          refine bodyPost_ret (results_cell2 rfl rfl (load_store2 HZ.out.cells.1 HZ.out.cells.2)) rfl ?_
          have hdl := HDL.out
          subst hdl
          refine ⟨_, rfl, ⟨_, _, sl.set j (.slice za (dropL ls[j] x).length zc), rfl, by rw [List.length_set, List.length_set]; exact hs4, by rw [List.length_set]; exact own_base (own_setI (own_setI HN7.out (p := ⟨w.heap.size + 1, 0, none⟩) hz _) (p := ⟨w.heap.size + 1, 1, none⟩) hz _) (by omega), ((HL7.out.set (p := ⟨w.heap.size + 1, 0, none⟩) hz _).set (p := ⟨w.heap.size + 1, 1, none⟩) hz _).base (by omega)⟩, ?_⟩
          exact (HB7.out.setCell (p := ⟨w.heap.size + 1, 0, none⟩) (by show w.heap.size ≤ w.heap.size + 1; omega) _).setCell (p := ⟨w.heap.size + 1, 1, none⟩) (by show w.heap.size ≤ w.heap.size + 1; omega) _
end Go.Proofs.Ytgolhfmmlanmlaa

/- Only some blocks turned. -/
namespace Go.Proofs.Ytgolhfmmlanmlaa
open Go.RowKit Pth

/-- Only blocks between two have turned, whatever they hold. -/
structure OnlyB (B C : Nat) (w w' : World) : Prop where
  below : Below B w w'
  above : ∀ i, C ≤ i → i < w.heap.size → w'.heap[i]? = w.heap[i]?
theorem OnlyB.trans {B C : Nat} {a b c : World} (h : OnlyB B C a b) (k : OnlyB B C b c) : OnlyB B C a c :=
  ⟨h.below.trans k.below, fun i hi hl => (k.above i hi (Nat.lt_of_lt_of_le hl h.below.size)).trans (h.above i hi hl)⟩
theorem OnlyB.of_below {B C : Nat} {w w' : World} (h : Below w.heap.size w w') (hB : B ≤ w.heap.size) : OnlyB B C w w' := ⟨h.mono hB, fun i _ hl => h.block i hl⟩
theorem OnlyB.of_only {B C : Nat} {w w' : World} (h : OnlyIn B C w w') : OnlyB B C w w' := ⟨h.below, h.above⟩
theorem OnlyB.of_grown {B C : Nat} {w w' : World} {r : Option Nat} (h : w.grownBy w' r) (hr : ∀ i, r = some i → B ≤ i ∧ i < C) (hB : B ≤ w.heap.size) : OnlyB B C w w' := by
  refine ⟨⟨h.os, h.tape, h.output, h.size, fun i hi => h.block i (by omega) (fun e => by have := (hr i e.symm).1; omega)⟩, fun i hi hl => h.block i hl (fun e => by have := (hr i e.symm).2; omega)⟩
theorem OnlyB.own {B C D e n z : Nat} {w w' : World} {v : Value} {xs : List Value} (hg : OnlyB B C w w') (h : w.ownsRow D e z v n xs) (hD : C ≤ D) : w'.ownsRow D e z v n xs := by
  refine ⟨h.1, ?_⟩
  rcases h.2 with h0 | ⟨g, cap, cur, hv, hB, hh, r⟩
  · exact .inl h0
  · exact .inr ⟨g, cap, cur, hv, hB, (hg.above g (by omega) (lt_of_block hh)).trans hh, r⟩
end Go.Proofs.Ytgolhfmmlanmlaa

/- A region that draws its order, whose first operations come in one forced order (a call that makes memory among them) and whose others only read: one walk in the order of the text. -/
namespace Go.Proofs.Ytgolhfmmlanmlaa
open Go.RowKit

theorem oper_wp_Q {P : Program} {o : Oper} {a : Act} {w : World} {K : Act → World → Prop} {Q Q' : Exit → Act → World → Prop} (hq : ∀ e a w, e ≠ .normal → Q e a w → Q' e a w) (hh : o.wp P a w K Q) : o.wp P a w K Q' := by
  unfold Oper.wp at *
  generalize (execOp a.eval o).run P w = r at *
  cases r with
  | ok n w' =>
    cases n <;> simp only [Oper.upon] at hh ⊢ <;>
      first
        | exact hh
        | exact Calls.mono hh (fun e w'' he => by cases e <;> first | exact he | exact hq _ _ _ (by simp) he | exact (let ⟨a, w, h⟩ := he; ⟨a, w, hq _ _ _ (by simp) h⟩))
  | halt x w' => cases x <;> simp only [Oper.upon] at hh ⊢ <;> first | exact hh | exact hq _ _ _ (by simp) hh

theorem lets_Q {Q Q' : Exit → Act → World → Prop} (hq : ∀ e a w, e ≠ .normal → Q e a w → Q' e a w) (h : LetsOut Q) : LetsOut Q' :=
  let ⟨a, w, h⟩ := h; ⟨a, w, hq _ _ _ (by simp) h⟩

theorem wpOp_Q {P : Program} {ops : Array Oper} {i : Nat} {a : Act} {w : World} {K : Act → World → Prop} {Q Q' : Exit → Act → World → Prop} (hq : ∀ e a w, e ≠ .normal → Q e a w → Q' e a w) (hh : wpOp P ops Q i K a w) : wpOp P ops Q' i K a w := by
  unfold wpOp at *
  split
  · simpa [*] using hh
  · rename_i o ho
    simp only [ho] at hh
    split
    · rename_i hw; simp only [hw, if_true] at hh; exact hh.imp (oper_wp_Q hq) (fun h => ⟨h.1, lets_Q hq h.2⟩)
    · rename_i hw; simp only [hw] at hh; exact hh

/-- T behind the head, Q at whatever else. -/
def Then (T : Act → World → Prop) (Q : Exit → Act → World → Prop) : Exit → Act → World → Prop
  | .normal, a, w => T a w
  | e, a, w => Q e a w
theorem then_normal {T : Act → World → Prop} {Q : Exit → Act → World → Prop} {a : Act} {w : World} (h : T a w) : Then T Q .normal a w := h
theorem then_Q {T : Act → World → Prop} {Q : Exit → Act → World → Prop} : ∀ e a w, e ≠ .normal → Then T Q e a w → Q e a w := fun e a w he h => by
  cases e <;> first | exact absurd rfl he | exact h

def headB (ops : Array Oper) : Nat → Nat → Array Bool → Bool
  | 0, _, _ => true
  | g + 1, k, listed => decide (Region.ready .any ops listed = [k]) && headB ops g (k + 1) (listed.setIfInBounds k true)
def setAll : Nat → Nat → Array Bool → Array Bool
  | 0, _, listed => listed
  | g + 1, k, listed => setAll g (k + 1) (listed.setIfInBounds k true)

theorem wpAny_head {P : Program} {ops : Array Oper} {T : Act → World → Prop} {Q : Exit → Act → World → Prop} {r : Nat} : ∀ (l : List Oper) (k : Nat) (listed : Array Bool) (a : Act) (w : World), (∀ j, j < l.length → l[j]? = ops[k + j]?) →
    headB ops l.length k listed = true → (∀ a w, T a w → wpAny P .any ops Q r (setAll l.length k listed) a w) → wpList P ops (Then T Q) l a w → wpAny P .any ops Q (l.length + r) listed a w
  | [], _, _, _, _, _, _, hT, h => by
    simp only [List.length_nil, Nat.zero_add]
    exact hT _ _ h
  | o :: l, k, listed, a, w, hl, hB, hT, h => by
    have h0 : ops[k]? = some o := by have := hl 0 (by simp); simpa using this.symm
    simp only [List.length_cons, headB, Bool.and_eq_true, decide_eq_true_eq] at hB
    have e : (o :: l).length + r = (l.length + r) + 1 := by simp only [List.length_cons]; omega
    rw [e]
    refine ⟨fun h1 => (by rw [hB.1] at h1; cases h1), fun i hi => ?_⟩
    rw [hB.1] at hi
    have hik : i = k := by simpa using hi
    subst hik
    have hw : wpOp P ops (Then T Q) i (wpList P ops (Then T Q) l) a w := by unfold wpOp; simp only [h0]; exact h
    exact wpOp_Q then_Q (wpOp_mono (fun a' w' h' => wpAny_head l (i + 1) _ a' w' (fun j hj => by have := hl (j + 1) (by simp; omega); simpa [Nat.add_assoc, Nat.add_comm 1 j] using this) hB.2 hT h') hw)

theorem wp_region_head_quiet {P : Program} {id : Nat} {Q : Exit → Act → World → Prop} {a : Act} {w : World} {l : List Oper} (n : Nat) (hm : P.follows .mixedOrders = true) (hs : Region.noSelect l.toArray = true)
    (hH : headB l.toArray (l.take n).length 0 (Array.replicate l.toArray.size false) = true) (hL : Region.lexFrom .any l.toArray (l.drop n).length n (setAll (l.take n).length 0 (Array.replicate l.toArray.size false)) = true) (hn : n ≤ l.length)
    (h : wpList P l.toArray (Then (fun a' w' => wpQuiet P l.toArray (fun x => ∃ m, x = w'.drewN m) (fun a'' => ∀ x, (∃ m, x = w'.drewN m) → Q .normal a'' x) (l.drop n) a') Q) (l.take n) a { w with drawn := w.drawn + 1 }) : (Code.region id l.toArray true).wp P Q a w := by
  have htl : (l.take n).length = n := by rw [List.length_take]; omega
  refine wp_region_any hm ?_
  have H := wpAny_head (Q := Q) (r := (l.drop n).length) (l.take n) 0 (Array.replicate l.toArray.size false) a { w with drawn := w.drawn + 1 } (fun j hj => by
    rw [htl] at hj
    simp [hj]) hH (fun a' w' h' => ?_) h
  · have e : (l.take n).length + (l.drop n).length = l.toArray.size := by rw [htl, List.length_drop]; simp; omega
    rw [e] at H
    exact H
  · refine wpAny_of_quiet (C := fun x => ∃ m, x = w'.drewN m) (Q := fun a'' => ∀ x, (∃ m, x = w'.drewN m) → Q .normal a'' x) (fun a w hw h => h w hw) _ _ _ _ ⟨0, rfl⟩ ?_
    exact wpAnyQ_lex hs (l.drop n) n _ _ (fun j => by simp [List.getElem?_drop]) hL h'

end Go.Proofs.Ytgolhfmmlanmlaa

/- A region that draws its order, in which behind a forced head a call that makes memory and a load may change places, and whose others only read: three walks. -/
namespace Go.Proofs.Ytgolhfmmlanmlaa
open Go.RowKit

/-- Behind those that are listed: n and n + 2 may come, n + 1 behind n; nothing else ahead of all three. -/
def diaB (ops : Array Oper) (n : Nat) (L : Array Bool) : Bool :=
  decide (Region.ready .any ops L = [n, n + 2]) && (decide (Region.ready .any ops (L.setIfInBounds n true) = [n + 1, n + 2]) && (decide (Region.ready .any ops (L.setIfInBounds (n + 2) true) = [n]) &&
  (decide (Region.ready .any ops ((L.setIfInBounds n true).setIfInBounds (n + 1) true) = [n + 2]) && (decide (Region.ready .any ops ((L.setIfInBounds n true).setIfInBounds (n + 2) true) = [n + 1]) && (decide (Region.ready .any ops ((L.setIfInBounds (n + 2) true).setIfInBounds n true) = [n + 1]) &&
  (decide (((L.setIfInBounds n true).setIfInBounds (n + 2) true).setIfInBounds (n + 1) true = ((L.setIfInBounds n true).setIfInBounds (n + 1) true).setIfInBounds (n + 2) true) &&
  decide (((L.setIfInBounds (n + 2) true).setIfInBounds n true).setIfInBounds (n + 1) true = ((L.setIfInBounds n true).setIfInBounds (n + 1) true).setIfInBounds (n + 2) true)))))))

theorem wpAny_one {P : Program} {ops : Array Oper} {Q : Exit → Act → World → Prop} {r i : Nat} {L : Array Bool} {a : Act} {w : World} (hr : Region.ready .any ops L = [i]) (h : wpOp P ops Q i (wpAny P .any ops Q r (L.setIfInBounds i true)) a w) : wpAny P .any ops Q (r + 1) L a w := by
  refine ⟨fun h1 => (by rw [hr] at h1; cases h1), fun j hj => ?_⟩
  rw [hr] at hj
  have hj' : j = i := by simpa using hj
  subst hj'
  exact h
theorem wpAny_two {P : Program} {ops : Array Oper} {Q : Exit → Act → World → Prop} {r i k : Nat} {L : Array Bool} {a : Act} {w : World} (hr : Region.ready .any ops L = [i, k]) (h : wpOp P ops Q i (wpAny P .any ops Q r (L.setIfInBounds i true)) a w) (h' : wpOp P ops Q k (wpAny P .any ops Q r (L.setIfInBounds k true)) a w) : wpAny P .any ops Q (r + 1) L a w := by
  refine ⟨fun h1 => (by rw [hr] at h1; cases h1), fun j hj => ?_⟩
  rw [hr] at hj
  have hj' : j = i ∨ j = k := by simpa using hj
  rcases hj' with rfl | rfl
  · exact h
  · exact h'
theorem wpOp_of_list {P : Program} {ops : Array Oper} {Q Q' : Exit → Act → World → Prop} {i : Nat} {o : Oper} {rest : List Oper} {K : Act → World → Prop} {a : Act} {w : World} (ho : ops[i]? = some o) (hq : ∀ e a w, e ≠ .normal → Q' e a w → Q e a w)
    (hk : ∀ a w, wpList P ops Q' rest a w → K a w) (h : wpList P ops Q' (o :: rest) a w) : wpOp P ops Q i K a w := by
  have h1 : wpOp P ops Q' i (wpList P ops Q' rest) a w := by unfold wpOp; simp only [ho]; exact h
  exact wpOp_Q hq (wpOp_mono hk h1)

theorem wpOp_last {P : Program} {ops : Array Oper} {T : Act → World → Prop} {Q : Exit → Act → World → Prop} {i : Nat} {o : Oper} {K : Act → World → Prop} {a : Act} {w : World} (ho : ops[i]? = some o) (hT : ∀ a w, T a w → K a w) (h : wpList P ops (Then T Q) [o] a w) : wpOp P ops Q i K a w :=
  wpOp_of_list (rest := []) ho then_Q (fun a w k => hT a w k) h
theorem wpOp_more {P : Program} {ops : Array Oper} {T : Act → World → Prop} {Q : Exit → Act → World → Prop} {i : Nat} {o p : Oper} {rest : List Oper} {K : Act → World → Prop} {a : Act} {w : World} (ho : ops[i]? = some o) (hT : ∀ a w, wpList P ops (Then T Q) (p :: rest) a w → K a w) (h : wpList P ops (Then T Q) (o :: p :: rest) a w) : wpOp P ops Q i K a w :=
  wpOp_of_list (rest := p :: rest) ho then_Q hT h
theorem wpAny_dia {P : Program} {ops : Array Oper} {T : Act → World → Prop} {Q : Exit → Act → World → Prop} {r n : Nat} {L : Array Bool} {a : Act} {w : World} {x y z : Oper} (hx : ops[n]? = some x) (hy : ops[n + 1]? = some y) (hz : ops[n + 2]? = some z)
    (hD : diaB ops n L = true) (hT : ∀ a w, T a w → wpAny P .any ops Q r (((L.setIfInBounds n true).setIfInBounds (n + 1) true).setIfInBounds (n + 2) true) a w)
    (h1 : wpList P ops (Then (fun a w => wpList P ops (Then T Q) [y, z] a w ∧ wpList P ops (Then T Q) [z, y] a w) Q) [x] a w) (h3 : wpList P ops (Then T Q) [z, x, y] a w) : wpAny P .any ops Q (r + 3) L a w := by
  simp only [diaB, Bool.and_eq_true, decide_eq_true_eq] at hD
  obtain ⟨d1, d2, d3, d4, d5, d6, d7, d8⟩ := hD
  refine wpAny_two d1 ?_ ?_
  · refine wpOp_last hx (fun a w k => ?_) h1
    obtain ⟨k1, k2⟩ : wpList P ops (Then T Q) [y, z] a w ∧ wpList P ops (Then T Q) [z, y] a w := k
    exact wpAny_two d2 (wpOp_more hy (fun a w k => wpAny_one d4 (wpOp_last hz hT k)) k1)
      (wpOp_more hz (fun a w k => wpAny_one d5 (wpOp_last hy (fun a w k => by rw [d7]; exact hT a w k) k)) k2)
  · exact wpOp_more hz (fun a w k => wpAny_one d3 (wpOp_more hx (fun a w k => wpAny_one d6 (wpOp_last hy (fun a w k => by rw [d8]; exact hT a w k) k)) k)) h3

/-- What is left behind the three: it only reads. -/
def Quiets (P : Program) (l : List Oper) (m : Nat) (Q : Exit → Act → World → Prop) (a : Act) (w : World) : Prop :=
  wpQuiet P l.toArray (fun x => ∃ j, x = w.drewN j) (fun a' => ∀ x, (∃ j, x = w.drewN j) → Q .normal a' x) (l.drop m) a

theorem wp_region_dia {P : Program} {id : Nat} {Q : Exit → Act → World → Prop} {a : Act} {w : World} {l : List Oper} (n : Nat) (x y z : Oper) (hx : l[n]? = some x) (hy : l[n + 1]? = some y) (hz : l[n + 2]? = some z) (hm : P.follows .mixedOrders = true) (hs : Region.noSelect l.toArray = true)
    (hH : headB l.toArray (l.take n).length 0 (Array.replicate l.toArray.size false) = true) (hD : diaB l.toArray n (setAll (l.take n).length 0 (Array.replicate l.toArray.size false)) = true)
    (hL : Region.lexFrom .any l.toArray (l.drop (n + 3)).length (n + 3) ((((setAll (l.take n).length 0 (Array.replicate l.toArray.size false)).setIfInBounds n true).setIfInBounds (n + 1) true).setIfInBounds (n + 2) true) = true) (hn : n + 3 ≤ l.length)
    (h : wpList P l.toArray (Then (fun a' w' => wpList P l.toArray (Then (fun a w => wpList P l.toArray (Then (Quiets P l (n + 3) Q) Q) [y, z] a w ∧ wpList P l.toArray (Then (Quiets P l (n + 3) Q) Q) [z, y] a w) Q) [x] a' w' ∧ wpList P l.toArray (Then (Quiets P l (n + 3) Q) Q) [z, x, y] a' w') Q) (l.take n) a { w with drawn := w.drawn + 1 }) : (Code.region id l.toArray true).wp P Q a w := by
  have htl : (l.take n).length = n := by rw [List.length_take]; omega
  refine wp_region_any hm ?_
  have H := wpAny_head (Q := Q) (r := (l.drop (n + 3)).length + 3) (l.take n) 0 (Array.replicate l.toArray.size false) a { w with drawn := w.drawn + 1 } (fun j hj => by
    rw [htl] at hj
    simp [hj]) hH (fun a' w' h' => wpAny_dia (by simpa using hx) (by simpa using hy) (by simpa using hz) hD (fun a w hq => ?_) h'.1 h'.2) h
  · have e : (l.take n).length + ((l.drop (n + 3)).length + 3) = l.toArray.size := by rw [htl, List.length_drop]; simp; omega
    rw [e] at H
    exact H
  · refine wpAny_of_quiet (C := fun x => ∃ m, x = w.drewN m) (Q := fun a'' => ∀ x, (∃ m, x = w.drewN m) → Q .normal a'' x) (fun a w hw h => h w hw) _ _ _ _ ⟨0, rfl⟩ ?_
    exact wpAnyQ_lex hs (l.drop (n + 3)) (n + 3) _ _ (fun j => by simp [List.getElem?_drop]) hL hq

end Go.Proofs.Ytgolhfmmlanmlaa

/- A region that draws its order, by an invariant over what is done. -/
namespace Go.Proofs.Ytgolhfmmlanmlaa
open Go.RowKit

/-- How many are still to do. -/
def leftB (L : Array Bool) : Nat := L.toList.countP (fun b => !b)
theorem left_set {L : Array Bool} {i : Nat} (h : L.getD i true = false) : leftB (L.setIfInBounds i true) + 1 = leftB L := by
  have hi : i < L.size := by
    rcases Nat.lt_or_ge i L.size with h1 | h1
    · exact h1
    · simp [Array.getD, Nat.not_lt.2 h1] at h
  have hv : L.toList[i]'(by simpa using hi) = false := by simpa [Array.getD, hi] using h
  unfold leftB
  have e : (L.setIfInBounds i true).toList = L.toList.set i true := by simp [Array.setIfInBounds, hi]
  rw [e]
  have key : ∀ (l : List Bool) (i : Nat) (hi : i < l.length), l[i] = false → (l.set i true).countP (fun b => !b) + 1 = l.countP (fun b => !b) := by
    intro l
    induction l with
    | nil => intro i hi; simp at hi
    | cons x t ih =>
      intro i hi hx
      cases i with
      | zero => simp only [List.getElem_cons_zero] at hx; subst hx; simp
      | succ i =>
        simp only [List.getElem_cons_succ] at hx
        have := ih i (by simpa using hi) hx
        simp only [List.set_cons_succ, List.countP_cons]
        omega
  exact key _ _ (by simpa using hi) hv
theorem ready_un {ops : Array Oper} {L : Array Bool} {i : Nat} (h : i ∈ Region.ready .any ops L) : L.getD i true = false := by
  unfold Region.ready at h
  have := (List.mem_filter.1 h).2
  rw [Bool.and_eq_true] at this
  simpa using this.1
theorem wpAny_inv {P : Program} {ops : Array Oper} {Q : Exit → Act → World → Prop} (Inv : Array Bool → Act → World → Prop)
    (hstep : ∀ L a w i, Inv L a w → i ∈ Region.ready .any ops L → wpOp P ops Q i (Inv (L.setIfInBounds i true)) a w) (hdone : ∀ L a w, Inv L a w → Region.ready .any ops L = [] → Q .normal a w) :
    ∀ r L a w, leftB L ≤ r → Inv L a w → wpAny P .any ops Q r L a w := by
  intro r
  induction r with
  | zero =>
    intro L a w hr hI
    have : Region.ready .any ops L = [] := by
      cases hq : Region.ready .any ops L with
      | nil => rfl
      | cons i t =>
        have := left_set (ready_un (ops := ops) (L := L) (i := i) (by rw [hq]; simp))
        omega
    exact ⟨this, hdone L a w hI this⟩
  | succ r ih =>
    intro L a w hr hI
    refine ⟨fun h => hdone L a w hI h, fun i hi => ?_⟩
    have hl := left_set (ready_un hi)
    exact wpOp_mono (fun a' w' h' => ih _ a' w' (by omega) h') (hstep L a w i hI hi)
/-- Of an invariant over what is done. -/
theorem wp_region_inv {P : Program} {id : Nat} {ops : Array Oper} {Q : Exit → Act → World → Prop} {a : Act} {w : World} (hm : P.follows .mixedOrders = true) (Inv : Array Bool → Act → World → Prop)
    (h0 : Inv (Array.replicate ops.size false) a w.drew)
    (hstep : ∀ L a w i, Inv L a w → i ∈ Region.ready .any ops L → wpOp P ops Q i (Inv (L.setIfInBounds i true)) a w) (hdone : ∀ L a w, Inv L a w → Region.ready .any ops L = [] → Q .normal a w) : (Code.region id ops true).wp P Q a w :=
  wp_region_any hm (wpAny_inv Inv hstep hdone _ _ _ _ (by unfold leftB; exact Nat.le_trans List.countP_le_length (by simp)) h0)
end Go.Proofs.Ytgolhfmmlanmlaa

/- Walks: what holds while a graph is drawn. -/
namespace Go.Proofs.Ytgolhfmmlanmlaa
open Go.RowKit Pth

/-- The reader, at most so far. -/
def CurL (B b : Nat) (A : Option Addr) (n c K : Nat) (w : World) : Prop := ∃ k, k ≤ K ∧ Cur B b A n c k w
theorem CurL.lt {B b : Nat} {A : Option Addr} {n c K : Nat} {w : World} (h : CurL B b A n c K w) : b < w.heap.size := h.elim fun _ h => cur_lt h.2
theorem CurL.more {B b : Nat} {A : Option Addr} {n c K K' : Nat} {w : World} (h : CurL B b A n c K w) (hK : K ≤ K') : CurL B b A n c K' w := h.elim fun k h => ⟨k, Nat.le_trans h.1 hK, h.2⟩
theorem CurL.below {B b : Nat} {A : Option Addr} {n c K : Nat} {w w' : World} (h : CurL B b A n c K w) (hb : Below w.heap.size w w') : CurL B b A n c K w' := by
  obtain ⟨k, hk, hC⟩ := h
  exact ⟨k, hk, cur_below hC (Nat.le_trans hC.1 (Nat.le_of_lt (cur_lt hC))) hb⟩
theorem CurL.set {B b : Nat} {A : Option Addr} {n c K : Nat} {w : World} (h : CurL B b A n c K w) {p : Addr} (hp : b ≠ p.block) (hB : B ≤ p.block) (u : Value) : CurL B b A n c K (w.setCell p u) := by
  obtain ⟨k, hk, h1, ⟨sd, h2⟩, h3⟩ := h
  refine ⟨k, hk, h1, ⟨sd, (Below.heap_setCell w p u b hp).trans h2⟩, fun i hi => ?_⟩
  obtain ⟨g, o', x, hA, hg, hc, h0, h4⟩ := h3 i hi
  exact ⟨g, o', x, hA, hg, (((Below.refl B w).setCell (p := p) hB u).cell (p := ⟨g, o' + i, none⟩) hg).trans hc, h0, h4⟩
/-- A number is handed back, below m where there is one; the reader is at most one further; nothing else has turned. -/
def PickPost (B b : Nat) (A : Option Addr) (n c K m : Nat) (w : World) (e : Ending) (w' : World) : Prop :=
  ∃ x : Nat, (x < m ∨ x = 0) ∧ e = .returned (.int .i64 x) ∧ CurL B b A n c (K + 1) w' ∧ w.grownBy w' (some b)

set_option maxHeartbeats 1000000 in
theorem pickL_any (B b : Nat) (A : Option Addr) (n c K m : Nat) (w : World) (h : CurL B b A n c K w) (hn : n ≤ 2000000) (hK : K ≤ 2000000) (hm2 : m ≤ 200) :
    Calls Try.prog 60 #[.pointer (some ⟨b, 0, none⟩), .int .i64 m] w (PickPost B b A n c K m w) := by
  obtain ⟨k, hk, hC⟩ := h
  rcases Nat.lt_or_ge m 2 with hm | hm
  · have HC := Lib.hid hC
    clear hC
    have hle : (m : Int) ≤ 1 := by omega
    go_enter Try.func60, Try.ntmps60
    go_wp2_with fail
    go_ret
    exact ⟨0, .inr rfl, rfl, ⟨k, by omega, HC.out⟩, ⟨rfl, rfl, rfl, Nat.le_refl _, fun _ _ _ => rfl⟩⟩
  · refine (pick_any B b A n c k m w hC hn (by omega) hm hm2).mono ?_
    rintro e w' ⟨x, hx0, hx1, rfl, hC', hg⟩
    obtain ⟨y, rfl⟩ : ∃ y : Nat, x = y := ⟨x.toNat, by omega⟩
    exact ⟨y, .inl (by omega), rfl, ⟨k + 1, by omega, hC'⟩, hg⟩

/-- Yes or no. -/
def OneLPost (B b : Nat) (A : Option Addr) (n c K : Nat) (w : World) (e : Ending) (w' : World) : Prop :=
  ∃ q : Bool, e = .returned (.bool q) ∧ CurL B b A n c (K + 1) w' ∧ w.grownBy w' (some b)
theorem oneL_any (B b : Nat) (A : Option Addr) (n c K m : Nat) (w : World) (h : CurL B b A n c K w) (hn : n ≤ 2000000) (hK : K ≤ 2000000) (hm : 2 ≤ m) (hm2 : m ≤ 200) :
    Calls Try.prog 82 #[.pointer (some ⟨b, 0, none⟩), .int .i64 m] w (OneLPost B b A n c K w) := by
  obtain ⟨k, hk, hC⟩ := h
  refine (one_any B b A n c k m w hC hn (by omega) hm hm2).mono ?_
  rintro e w' ⟨q, rfl, hC', hg⟩
  exact ⟨q, rfl, ⟨k + 1, by omega, hC'⟩, hg⟩

theorem GraphO.onlyB {B C D : Nat} {w w' : World} {v : Value} {ls : List (List Int)} {l : List Int} (h : GraphO D w v ls l) (hg : OnlyB B C w w') (hD : C ≤ D) : GraphO D w' v ls l := by
  obtain ⟨nv, ov, sl, hv, h1, h2, h3⟩ := h
  exact ⟨nv, ov, sl, hv, h1, hg.own h2 hD, fun p hp => hg.own (h3.1 p hp) hD, h3.2⟩
theorem only_reader {b : Nat} {w w' : World} (hg : w.grownBy w' (some b)) (hb : b < w.heap.size) : OnlyB b (b + 1) w w' :=
  OnlyB.of_grown hg (fun i hi => by simp only [Option.some.injEq] at hi; omega) (by omega)
/-- A graph behind a store into a variable of the same kind. -/
theorem graph_setG {D G o : Nat} {w : World} {v x y : Value} {ls : List (List Int)} {l : List Int} (h : GraphO D w v ls l) (hB : Blk2 w G 26 x y) (u : Value) : GraphO D (w.setCell ⟨G, o, none⟩ u) v ls l := by
  obtain ⟨nv, ov, sl, hv, h1, h2, h3⟩ := h
  exact ⟨nv, ov, sl, hv, h1, own_setNe h2 (fun e => blk_ne hB h2 (by decide) _ e rfl) u, fun p hp => own_setNe (h3.1 p hp) (fun e => blk_ne hB (h3.1 p hp) (by decide) _ e rfl) u, h3.2⟩

/-- So many tasks, and few needs. -/
def Tasks (N M : Nat) (ls : List (List Int)) (l : List Int) : Prop := ls.length = N ∧ l.length = N ∧ ∀ k (hk : k < ls.length), ls[k].length ≤ M
theorem ten_each {ls : List (List Int)} {l : List Int} (hG : GoodG ls l) : ∀ k (hk : k < ls.length), ls[k].length ≤ 10 := fun k hk => by
  have hw := (hG.each k hk).1
  have := rise_len hw.1 hw.2 (by have := hG.low; omega)
  have := hG.high
  omega
theorem tasks_add {N : Nat} {ls : List (List Int)} {l : List Int} {t x : Int} (hN : ls.length = N) (h : addOk ls l t x = true) : Tasks N 11 (addG ls l t x) (addO ls l t x) := by
  rw [(add_yes h).1, (add_yes h).2.1]
  obtain ⟨hb0, hb1, _, _, _⟩ := add_parts h
  have hG := goodG_iff.1 hb0
  simp only [Bool.and_eq_true, decide_eq_true_eq] at hb1
  obtain ⟨j, rfl⟩ : ∃ j : Nat, t = j := ⟨t.toNat, by omega⟩
  have hj : j < ls.length := by omega
  rw [needsAt_get hj, show ((j : Int)).toNat = j by omega]
  refine ⟨by rw [List.length_set]; exact hN, by rw [mendO_len, hG.same]; exact hN, fun k hk => ?_⟩
  rw [List.length_set] at hk
  rw [List.getElem_set]
  split
  · have := put_len ls[j] x; have := ten_each hG j hj; omega
  · have := ten_each hG k hk; omega
theorem tasks_drop {N : Nat} {ls : List (List Int)} {l : List Int} {t x : Int} (hN : ls.length = N) (h : dropOk ls l t x = true) : Tasks N 11 (dropG ls l t x) (dropO ls l t x) := by
  rw [(drop_yes h).1, (drop_yes h).2]
  have hT : taskG ls l t = true := by unfold dropOk at h; rw [Bool.and_eq_true] at h; exact h.1
  obtain ⟨hG, ht0, ht1⟩ := taskG_yes hT
  obtain ⟨j, rfl⟩ : ∃ j : Nat, t = j := ⟨t.toNat, by omega⟩
  have hj : j < ls.length := by omega
  rw [needsAt_get hj, show ((j : Int)).toNat = j by omega]
  refine ⟨by rw [List.length_set]; exact hN, by rw [hG.same]; exact hN, fun k hk => ?_⟩
  rw [List.length_set] at hk
  rw [List.getElem_set]
  split
  · have := drop_len ls[j] x; have := ten_each hG j hj; omega
  · have := ten_each hG k hk; omega

/-- What holds while a graph is drawn: the reader b, the variable G, the answer's R, the graph. -/
structure DrawG (B b : Nat) (A : Option Addr) (n c K G R N M : Nat) (nv ov : Value) (ls : List (List Int)) (l : List Int) (w W : World) : Prop where
  out : w.grownBy W (some b)
  lt : b < w.heap.size
  low : B ≤ b
  cur : CurL B b A n c K W
  g : Blk2 W G 26 nv ov
  r : Blk2 W R 26 (.slice none 0 0) (.slice none 0 0)
  gr : GraphO w.heap.size W (.agg #[nv, ov]) ls l
  hg : w.heap.size ≤ G
  hr : w.heap.size ≤ R
  ne : G ≠ R
  tasks : Tasks N M ls l
theorem DrawG.pick {B b : Nat} {A : Option Addr} {n c K G R N M : Nat} {nv ov : Value} {ls : List (List Int)} {l : List Int} {w W W' : World} {K' : Nat} (h : DrawG B b A n c K G R N M nv ov ls l w W) (hC : CurL B b A n c K' W') (hg : W.grownBy W' (some b)) : DrawG B b A n c K' G R N M nv ov ls l w W' :=
  ⟨only_chain h.out hg, h.lt, h.low, hC, h.g.beside hg (by have := h.hg; have := h.lt; simp only [ne_eq, Option.some.injEq]; omega), h.r.beside hg (by have := h.hr; have := h.lt; simp only [ne_eq, Option.some.injEq]; omega), h.gr.onlyB (only_reader hg (by have := h.out.size; have := h.lt; omega)) (by have := h.lt; omega), h.hg, h.hr, h.ne, h.tasks⟩
theorem DrawG.more {B b : Nat} {A : Option Addr} {n c K G R N M : Nat} {nv ov : Value} {ls : List (List Int)} {l : List Int} {w W W' : World} (h : DrawG B b A n c K G R N M nv ov ls l w W) (hb : Below W.heap.size W W') : DrawG B b A n c K G R N M nv ov ls l w W' :=
  ⟨only_trans h.out ⟨hb.os, hb.tape, hb.output, hb.size, fun i hi _ => hb.block i hi⟩ (row' := some W.heap.size) (fun i hi => by simp only [Option.some.injEq] at hi; have := h.out.size; exact .inr (by omega)), h.lt, h.low, h.cur.below hb, h.g.below hb (lt_of_block h.g), h.r.below hb (lt_of_block h.r), h.gr.below hb, h.hg, h.hr, h.ne, h.tasks⟩
theorem DrawG.wide {B b : Nat} {A : Option Addr} {n c K K' G R N M : Nat} {nv ov : Value} {ls : List (List Int)} {l : List Int} {w W : World} (h : DrawG B b A n c K G R N M nv ov ls l w W) (hK : K ≤ K') : DrawG B b A n c K' G R N M nv ov ls l w W :=
  ⟨h.out, h.lt, h.low, h.cur.more hK, h.g, h.r, h.gr, h.hg, h.hr, h.ne, h.tasks⟩
theorem out_set {a w : World} {b X o : Nat} (h : a.grownBy w (some b)) (hX : a.heap.size ≤ X) (u : Value) : a.grownBy (w.setCell ⟨X, o, none⟩ u) (some b) :=
  ⟨h.os, h.tape, h.output, by rw [World.size_setCell]; exact h.size, fun i hi hne => (Below.heap_setCell w ⟨X, o, none⟩ u i (by show i ≠ X; omega)).trans (h.block i hi hne)⟩
/-- A block of its own is turned. -/
theorem DrawG.set {B b : Nat} {A : Option Addr} {n c K G R N M X o : Nat} {nv ov x y : Value} {ls : List (List Int)} {l : List Int} {w W : World} (h : DrawG B b A n c K G R N M nv ov ls l w W) (hX : Blk2 W X 26 x y) (hx : w.heap.size ≤ X) (h1 : X ≠ G) (h2 : X ≠ R) (u : Value) : DrawG B b A n c K G R N M nv ov ls l w (W.setCell ⟨X, o, none⟩ u) := by
  have hb : b ≠ X := by have := h.lt; omega
  have hB : B ≤ X := by have := h.lt; have := h.low; omega
  have k1 := h.cur.set (p := ⟨X, o, none⟩) hb hB u
  have k2 := h.g.setNe (p := ⟨X, o, none⟩) (fun e => h1 e.symm) u
  have k3 := h.r.setNe (p := ⟨X, o, none⟩) (fun e => h2 e.symm) u
  exact ⟨out_set h.out hx u, h.lt, h.low, k1, k2, k3, graph_setG h.gr hX u, h.hg, h.hr, h.ne, h.tasks⟩
/-- The variable takes another graph. -/
theorem DrawG.put {B b : Nat} {A : Option Addr} {n c K G R N M : Nat} {nv ov nv' ov' : Value} {ls ls' : List (List Int)} {l l' : List Int} {w W : World} (h : DrawG B b A n c K G R N M nv ov ls l w W) (h' : GraphO w.heap.size W (.agg #[nv', ov']) ls' l') (hT : Tasks N M ls' l') : DrawG B b A n c K G R N M nv' ov' ls' l' w ((W.setCell ⟨G, 0, none⟩ nv').setCell ⟨G, 1, none⟩ ov') := by
  have hGb := h.g
  have g1 := hGb.set0 nv'
  have hb : b ≠ G := by have := h.lt; have := h.hg; omega
  have hB : B ≤ G := by have := h.lt; have := h.hg; have := h.low; omega
  have k1 := (h.cur.set (p := ⟨G, 0, none⟩) hb hB nv').set (p := ⟨G, 1, none⟩) hb hB ov'
  have k2 := (h.r.setNe (p := ⟨G, 0, none⟩) (fun e => h.ne e.symm) nv').setNe (p := ⟨G, 1, none⟩) (fun e => h.ne e.symm) ov'
  exact ⟨out_set (out_set h.out h.hg nv') h.hg ov', h.lt, h.low, k1, g1.set1 ov', k2, graph_setG (graph_setG h' hGb nv') g1 ov', h.hg, h.hr, h.ne, hT⟩
end Go.Proofs.Ytgolhfmmlanmlaa

/- Walks: the order of a drawn graph is spoilt. -/
namespace Go.Proofs.Ytgolhfmmlanmlaa
open Go.RowKit Pth

theorem DrawG.order {B b : Nat} {A : Option Addr} {n c K G R N M n2 co : Nat} {nv : Value} {ao : Option Addr} {ls : List (List Int)} {l : List Int} {w W : World} (h : DrawG B b A n c K G R N M nv (.slice ao n2 co) ls l w W) (hN : 1 ≤ N) :
    ∃ go, ao = some ⟨go, 0, none⟩ ∧ n2 = l.length ∧ (∃ y, W.cell? ⟨go, 0, none⟩ = some (.int .i64 y)) ∧ W.frozen? ⟨go, 0, none⟩ = false ∧ w.heap.size ≤ go ∧
      ∀ z : Int, DrawG B b A n c K G R N M nv (.slice ao n2 co) ls (l.set 0 z) w (W.setCell ⟨go, 0, none⟩ (.int .i64 z)) := by
  obtain ⟨nv', ov', sl, hv, h1, h2, h3⟩ := h.gr
  have e : nv = nv' ∧ Value.slice ao n2 co = ov' := by simpa using hv
  obtain ⟨rfl, rfl⟩ := e
  clear hv
  have hl := h.tasks.2.1
  have ho : W.ownsRow w.heap.size 3 1 (.slice ao n2 co) l.length (I l) := h3.1 (_, l) (by simp)
  rcases id ho.2 with h0 | ⟨g, cap, cur, hv, hg, hh, r⟩
  · exfalso
    have := h0.2
    have hx : (I l).length = l.length := by simp [I]
    rw [this] at hx
    simp at hx
    omega
  · injection hv with e1 e2 e3
    subst e1 e2 e3
    have h0 : 0 < l.length := by omega
    have hc := ho.cellAt 0 (by simpa [I] using h0)
    refine ⟨g, rfl, rfl, ⟨l[0], by rw [hc]; simp [I, h0]⟩, ho.frozenAt 0, hg, fun z => ?_⟩
    have hs := ho.stored 0 (.int .i64 z)
    have hI : (I l).set 0 (.int .i64 z) = I (l.set 0 z) := by simp [I, List.map_set]
    rw [hI] at hs
    have hb : b ≠ g := by have := h.lt; omega
    have hB : B ≤ g := by have := h.lt; have := h.low; omega
    have hne : ∀ {x : Value} {xs : List Value} {D m : Nat}, W.ownsRow D 24 1 x m xs → (W.setCell ⟨g, 0, none⟩ (.int .i64 z)).ownsRow D 24 1 x m xs := fun hx => own_setNe hx (fun e => own_typesI hx ho (by decide) _ e rfl) _
    have hG : G ≠ g := fun e => blk_ne h.g ho (by decide) g rfl e
    have hR : R ≠ g := fun e => blk_ne h.r ho (by decide) g rfl e
    have ht := Lists.turn (M := []) h3 hs.2 (l' := l.set 0 z) (by rw [List.length_set]; exact hs.1) (fun b hb => .inl hb)
    exact ⟨out_set h.out hg _, h.lt, h.low, h.cur.set (p := ⟨g, 0, none⟩) hb hB _, h.g.setNe (p := ⟨g, 0, none⟩) hG _, h.r.setNe (p := ⟨g, 0, none⟩) hR _, ⟨_, _, sl, rfl, h1, hne h2, ht⟩, h.hg, h.hr, h.ne, ⟨h.tasks.1, by rw [List.length_set]; exact hl, h.tasks.2.2⟩⟩
/-- The answer's cells are written. -/
theorem DrawG.answer {B b : Nat} {A : Option Addr} {n c K G R N M : Nat} {nv ov x y : Value} {ls : List (List Int)} {l : List Int} {w W : World} (h : DrawG B b A n c K G R N M nv ov ls l w W) :
    GraphO w.heap.size ((W.setCell ⟨R, 0, none⟩ x).setCell ⟨R, 1, none⟩ y) (.agg #[nv, ov]) ls l ∧ CurL B b A n c K ((W.setCell ⟨R, 0, none⟩ x).setCell ⟨R, 1, none⟩ y) ∧ w.grownBy ((W.setCell ⟨R, 0, none⟩ x).setCell ⟨R, 1, none⟩ y) (some b) := by
  have hb : b ≠ R := by have := h.lt; have := h.hr; omega
  have hB : B ≤ R := by have := h.lt; have := h.hr; have := h.low; omega
  exact ⟨graph_setG (graph_setG h.gr h.r x) (h.r.set0 x) y, (h.cur.set (p := ⟨R, 0, none⟩) hb hB x).set (p := ⟨R, 1, none⟩) hb hB y, out_set (out_set h.out h.hr x) h.hr y⟩
/-- The first task takes one more need, good or not. -/
theorem DrawG.needs {B b : Nat} {A : Option Addr} {n c K G R N M n1 cn : Nat} {ov : Value} {an : Option Addr} {ls : List (List Int)} {l : List Int} {w W : World} (h : DrawG B b A n c K G R N M (.slice an n1 cn) ov ls l w W) (hN : 1 ≤ N) :
    ∃ (gn : Nat) (s : Value) (m0 : List Int), an = some ⟨gn, 0, none⟩ ∧ n1 = ls.length ∧ w.heap.size ≤ gn ∧ W.cell? ⟨gn, 0, none⟩ = some s ∧ W.frozen? ⟨gn, 0, none⟩ = false ∧ m0.length ≤ M ∧ W.ownsRow w.heap.size 3 1 s m0.length (I m0) ∧
      ∀ (p : Int) (v' : Value) (W' : World), W'.ownsRow w.heap.size 3 1 v' (m0 ++ [p]).length (I (m0 ++ [p])) → W.grownBy W' s.ownBlock → (∀ b, v'.ownBlock = some b → s.ownBlock = some b ∨ W.heap.size ≤ b) →
        Blk2 W' G 26 (.slice an n1 cn) ov ∧ W'.cell? ⟨gn, 0, none⟩ = some s ∧ W'.frozen? ⟨gn, 0, none⟩ = false ∧
        DrawG B b A n c K G R N (M + 1) (.slice an n1 cn) ov (ls.set 0 (m0 ++ [p])) l w (W'.setCell ⟨gn, 0, none⟩ v') := by
  obtain ⟨nv', ov', sl, hv, h1, h2, h3⟩ := h.gr
  have e : Value.slice an n1 cn = nv' ∧ ov = ov' := by simpa using hv
  obtain ⟨rfl, rfl⟩ := e
  clear hv
  have hl := h.tasks.1
  obtain ⟨s, tl, rfl⟩ : ∃ s tl, sl = s :: tl := by
    rcases sl with _ | ⟨s, tl⟩
    · simp at h1; omega
    · exact ⟨s, tl, rfl⟩
  obtain ⟨m0, ms, rfl⟩ : ∃ m0 ms, ls = m0 :: ms := by
    rcases ls with _ | ⟨m0, ms⟩
    · simp at h1
    · exact ⟨m0, ms, rfl⟩
  have h3' : Lists w.heap.size W ([] ++ (s, m0) :: (tl.zip ms ++ [(ov, l)])) := h3
  have hs : W.ownsRow w.heap.size 3 1 s m0.length (I m0) := h3'.1 (s, m0) (by simp)
  rcases id h2.2 with h0 | ⟨g, cap, cur, hv, hg, hh, r⟩
  · exfalso
    have hx := h0.2
    simp at hx
  · injection hv with e1 e2 e3
    subst e1 e2 e3
    have hc := h2.cellAt 0 (by simp)
    refine ⟨g, s, m0, rfl, rfl, hg, by rw [hc]; simp, h2.frozenAt 0, h.tasks.2.2 0 (by simp), hs, fun p v' W' ho hgr hnew => ?_⟩
    have hlt : g < W.heap.size := lt_of_block hh
    have hsb : ∀ k, s.ownBlock = some k → w.heap.size ≤ k := fun k hk => (hs.lt k hk).1
    have hGs : ∀ k, s.ownBlock = some k → G ≠ k := blk_ne h.g hs (by decide)
    have hRs : ∀ k, s.ownBlock = some k → R ≠ k := blk_ne h.r hs (by decide)
    have hGg : G ≠ g := fun e => blk_ne h.g h2 (by decide) g rfl e
    have hRg : R ≠ g := fun e => blk_ne h.r h2 (by decide) g rfl e
    have hb : b ≠ g := by have := h.lt; omega
    have hB : B ≤ g := by have := h.lt; have := h.low; omega
    have k1 : Blk2 W' G 26 (.slice (some ⟨g, 0, none⟩) (m0 :: ms).length cn) ov := h.g.beside hgr (fun e => hGs G e rfl)
    have k2 : Blk2 W' R 26 (.slice none 0 0) (.slice none 0 0) := h.r.beside hgr (fun e => hRs R e rfl)
    have k3 : W'.ownsRow w.heap.size 24 1 (.slice (some ⟨g, 0, none⟩) (m0 :: ms).length cn) (m0 :: ms).length (s :: tl) := own_apartI h2 hgr (fun k hk => fun e => own_typesI h2 hs (by decide) k e hk)
    have k4 : w.grownBy W' (some b) := ⟨hgr.os.trans h.out.os, hgr.tape.trans h.out.tape, hgr.output.trans h.out.output, Nat.le_trans h.out.size hgr.size, fun i hi hne => (hgr.block i (Nat.lt_of_lt_of_le hi h.out.size) (fun e => by have := hsb i e.symm; omega)).trans (h.out.block i hi hne)⟩
    have k5 : CurL B b A n c K W' := by
      obtain ⟨k, hk, q1, ⟨sd, q2⟩, q3⟩ := h.cur
      have hlow : ∀ i, i < w.heap.size → W'.heap[i]? = W.heap[i]? := fun i hi => hgr.block i (Nat.lt_of_lt_of_le hi h.out.size) (fun e => by have := hsb i e.symm; omega)
      have hBl : Below w.heap.size W W' := ⟨hgr.os, hgr.tape, hgr.output, hgr.size, hlow⟩
      refine ⟨k, hk, q1, ⟨sd, (hlow b h.lt).trans q2⟩, fun i hi => ?_⟩
      obtain ⟨g', o', x, hA, hg', hc', h0', h4'⟩ := q3 i hi
      exact ⟨g', o', x, hA, hg', (hBl.cell (p := ⟨g', o' + i, none⟩) (by show g' < _; have := h.lt; omega)).trans hc', h0', h4'⟩
    have hc' := k3.cellAt 0 (by simp)
    refine ⟨k1, by rw [hc']; simp, k3.frozenAt 0, ?_⟩
    have ht := Lists.turn h3' hgr ho hnew
    have hst := k3.stored 0 v'
    have ht2 := ht.outer k3 (by decide) hst.2
    refine ⟨out_set k4 hg v', h.lt, h.low, k5.set (p := ⟨g, 0, none⟩) hb hB v', k1.setNe (p := ⟨g, 0, none⟩) hGg v', k2.setNe (p := ⟨g, 0, none⟩) hRg v', ⟨_, _, v' :: tl, rfl, by simpa using h1, by simpa using hst.1, by simpa using ht2⟩, h.hg, h.hr, h.ne, ⟨by rw [List.length_set]; exact hl, h.tasks.2.1, fun k hk => ?_⟩⟩
    rw [List.length_set] at hk
    rw [List.getElem_set]
    split
    · have := h.tasks.2.2 0 (by simp)
      simp only [List.getElem_cons_zero] at this
      rw [List.length_append, List.length_singleton]
      omega
    · have := h.tasks.2.2 k hk
      omega
end Go.Proofs.Ytgolhfmmlanmlaa
