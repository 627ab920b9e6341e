/- Texts of one claim, joined in their order. -/
import Derived.RangeFuncNested
import Derived.RangeFuncBound
import Derived.RangeFuncCalls
import Derived.RangeFuncLeaves
import Derived.RangeFuncWrites
import Derived.Shelf.Abstract
import Derived.Shelf.RegionOpen
import Derived.OwnWalkIn
import Derived.TacticsInMore
import Derived.LoopNIn
import Derived.LoopIn
import Derived.Test.YtpjmdljjmknpkaaM7

/- Walks: the reference's ReadyWith and MustMake. -/
namespace Go.Proofs.Ytpjmdljjmknpkaa
open Go.RowKit Pth

/-- One that is not among some, and so many of what it needs are. -/
def readyK (cs : List Int) (k : Int) (nd : List Int) : Bool := !hasL cs k && !nd.any (fun x => !hasL cs x)
theorem readyK_snoc (cs : List Int) (k : Int) (nd : List Int) (x : Int) : readyK cs k (nd ++ [x]) = (readyK cs k nd && hasL cs x) := by
  unfold readyK
  rw [List.any_append]
  cases hasL cs k <;> cases nd.any (fun x => !hasL cs x) <;> cases hx : hasL cs x <;> simp [hx]
theorem readyK_nil (cs : List Int) (k : Int) : readyK cs k [] = !hasL cs k := by unfold readyK; simp
theorem readyK_all {ls : List (List Int)} {cs : List Int} {k : Nat} (hk : k < ls.length) : readyK cs k ls[k] = readyP ls cs k := by unfold readyK readyP; rw [needsAt_get hk]
theorem upto_yes {p : Int → Bool} {k : Nat} (h : p (k : Int) = true) : (upto (k + 1)).filter p = (upto k).filter p ++ [(k : Int)] := by
  rw [upto_succ, List.filter_append, List.filter_cons, h]; rfl
theorem upto_no {p : Int → Bool} {k : Nat} (h : p (k : Int) = false) : (upto (k + 1)).filter p = (upto k).filter p := by
  rw [upto_succ, List.filter_append, List.filter_cons, h]; simp

set_option maxRecDepth 20000 in
set_option maxHeartbeats 8000000 in
theorem specReady_any (ls : List (List Int)) (l cs : List Int) (v ucs : Value) (w : World) (hst : GraphV w v ls l) (hcs : RowV w ucs (I cs)) :
    Calls Try.prog 56 #[v, ucs] w (ListOk (readyA ls l cs) (someG ls l cs) w) := by
  have HV := Lib.hid hst
  obtain ⟨nv, ov, rfl, h1, h2⟩ := hst
  obtain ⟨an, cn, rfl, hn1, hn2, hat⟩ := h1.lists
  obtain ⟨ao, co, rfl, ho1, ho2, hao⟩ := h2.ints
  clear h1 h2
  unfold maxLen at hn2 ho2
  have HAT := Lib.hid hat
  have HAO := Lib.hid hao
  clear hat hao
  obtain ⟨wa, hwa⟩ : ∃ wa, wa = w.alloc (.cells #[.slice an ls.length cn, .slice ao l.length co] 26) := ⟨_, rfl⟩
  have P0 : Hid (Blk2 wa w.heap.size 26 (.slice an ls.length cn) (.slice ao l.length co)) := by rw [hwa]; exact Blk2.new
  have HA : Hid (Below w.heap.size w wa) := by rw [hwa]; exact (Below.refl w.heap.size w).alloc (Nat.le_refl _) _
  have hsa : wa.heap.size = w.heap.size + 1 := by rw [hwa]; simp
  have HSA := Lib.hid hsa
  have hsz : w.heap.size < wa.heap.size := by omega
  have HWA := Lib.hid hwa
  obtain ⟨c0, c1⟩ := P0.out.cells
  have HUcs := Lib.hid hcs
  obtain ⟨xacs, xccs, rfl, hxlcs, hxmcs, _⟩ := hcs.ints
  clear hcs
  unfold maxLen at hxmcs
  have HTcs := Lib.hid (fun W (h : Below wa.heap.size wa W) => l6Some_any ls l cs _ _ W (HV.out.below (bth HA.out h (Nat.le_refl _))) (HUcs.out.below (bth HA.out h (Nat.le_refl _))))
  have HNo : Hid ((someG ls l cs) = false → readyA ls l cs = []) := fun h => readyA_no h
  have HYes : Hid ((someG ls l cs) = true → readyA ls l cs = readyA_v ls l cs ∧ GoodG ls l ∧ (Rise cs ∧ ∀ x ∈ cs, 0 ≤ x ∧ x < (ls.length : Int))) := fun h => ⟨readyA_yes h, some_yes h⟩
  generalize readyA ls l cs = R at *
  generalize someG ls l cs = bcs at *
  clear hwa
  go_enter Try.func56, Try.ntmps56
  go_wp2_with fail
  rw [← HWA.out]
  refine (HTcs.out wa (Below.refl _ _)).mono ?_
  rintro e w1 ⟨rfl, hb1⟩
  have K1 := Lib.hid hb1
  obtain ⟨p1, q1⟩ := (P0.out.below K1.out hsz).cells
  clear hb1 c0 c1
  cases bcs with
  | false =>
    have hR := HNo.out rfl
    subst hR
    clear HNo HYes HTcs
    go_wp2_with fail
    go_ret2
    exact ⟨_, rfl, none_ownZ _ _ _, bth HA.out K1.out (Nat.le_refl _)⟩
  | true =>
    obtain ⟨hR, hG, hccs⟩ := HYes.out rfl
    clear HNo HYes HTcs
    have HKW := Lib.hid (bth HA.out K1.out (Nat.le_refl _))
    have PW := Lib.hid (P0.out.below K1.out hsz)
    have hszW := Nat.lt_of_lt_of_le hsz K1.out.size
    have HR : Hid (R = (upto ls.length).filter (readyP ls cs)) := hR
    have h10 := hG.high
    have HUC : Hid (∀ W, Below w.heap.size w W → RowV W (.slice xacs cs.length xccs) (I cs)) := fun W h => HUcs.out.below h
    clear hR hG hccs
    go_wp2_with fail
    clear p1 q1
    go_loopw [6, 19] (fun q i wr => ∃ k : Nat, k ≤ ls.length ∧ i = .int .i64 (k : Int) ∧ Hid (wr.ownsRow w.heap.size 3 1 q ((upto k).filter (readyP ls cs)).length (I ((upto k).filter (readyP ls cs)))) ∧ Hid (Below w.heap.size w wr)) (fun _ i _ => ls.length - (intOf i).toNat)
    case atStart => exact ⟨0, Nat.zero_le _, rfl, none_ownZ _ _ _, HKW⟩
    case round =>
      obtain ⟨k, hk, rfl, HO, HB⟩ := hrel
      by_cases hlt : k < ls.length
      · obtain ⟨ra, rc, hq⟩ := own_slice HO.out
        subst hq
        obtain ⟨g, o, a2, c2, hgo, hg, hcell0, hrow⟩ := HAT.out k hlt
        subst hgo
        have hcell : wr.cell? ⟨g, o + k, none⟩ = some (.slice a2 ls[k].length c2) := (HB.out.cell (p := ⟨g, o + k, none⟩) hg).trans hcell0
        have HRW : Hid (∀ W, Below w.heap.size w W → RowV W (.slice a2 ls[k].length c2) (I ls[k])) := fun W h => hrow.below h
        have hnl : ls[k].length ≤ c2 ∧ c2 ≤ 2 ^ 63 - 1 := by
          obtain ⟨_, _, h, h', h4, _⟩ := hrow.ints
          unfold maxLen at h4
          injection h with _ _ h3; omega
        obtain ⟨hnl, hc2⟩ := hnl
        have hfl : ((upto k).filter (readyP ls cs)).length ≤ 10 := by
          have := List.length_filter_le (readyP ls cs) (upto k); rw [upto_len] at this; omega
        have HH := l1Has_any cs (k : Int) _ wr (HUC.out wr HB.out)
        have HNL := Lib.hid (readyK_nil cs (k : Int))
        have HAL := Lib.hid (readyK_all (cs := cs) hlt)
        have HYE : Hid (readyP ls cs (k : Int) = true → (upto (k + 1)).filter (readyP ls cs) = (upto k).filter (readyP ls cs) ++ [(k : Int)]) := fun h => upto_yes h
        have HNE : Hid (readyP ls cs (k : Int) = false → (upto (k + 1)).filter (readyP ls cs) = (upto k).filter (readyP ls cs)) := fun h => upto_no h
        generalize (upto k).filter (readyP ls cs) = mm at *
        generalize hasL cs (k : Int) = b0 at *
        have HC := Lib.hid HH
        clear HH hcell0 hrow
        go_wp2_with fail
        refine HC.out.mono ?_
        rintro e w8 ⟨rfl, rfl⟩
        go_wp2_with fail
        clear hcell
        go_loopw [9, 30] (fun q i wz => ∃ m : Nat, m ≤ ls[k].length ∧ q = .bool (readyK cs k (ls[k].take m)) ∧ i = .int .i64 (m : Int) ∧ wz = wr) (fun _ i _ => ls[k].length - (intOf i).toNat)
        case atStart => exact ⟨0, Nat.zero_le _, by rw [List.take_zero, HNL.out], rfl, rfl⟩
        case round =>
          obtain ⟨m, hm, rfl, rfl, rfl⟩ := hrel
          by_cases hlt2 : m < ls[k].length
          · obtain ⟨gr, or, hra, hcr⟩ : ∃ gr or, a2 = some ⟨gr, or, none⟩ ∧ wr.cell? ⟨gr, or + m, none⟩ = some (.int .i64 ls[k][m]) := by
              obtain ⟨aa, cc, h, _, _, hc⟩ := (HRW.out wr HB.out).ints
              injection h with h1 _ _
              obtain ⟨gr, or, h2, _, h3⟩ := hc m hlt2
              exact ⟨gr, or, by rw [h1, h2], h3⟩
            subst hra
            have HE : Hid (readyK cs (k : Int) (ls[k].take (m + 1)) = (readyK cs (k : Int) (ls[k].take m) && hasL cs ls[k][m])) := by
              show _ = _
              rw [List.take_succ_eq_append_getElem hlt2, readyK_snoc]
            have HH2 := Lib.hid (l1Has_any cs ls[k][m] _ wr (HUC.out wr HB.out))
            generalize readyK cs (k : Int) (ls[k].take m) = r0 at *
            generalize ls[k][m] = xm at *
            generalize hasL cs xm = bx at *
            cases r0 with
            | false =>
              go_wp2_with fail
              go_roundw
              case rel => exact ⟨m + 1, by omega, by rw [HE.out]; rfl, by go_num, trivial⟩
              case measure => simp [intOf]; omega
            | true =>
              go_wp2_with fail
              refine HH2.out.mono ?_
              rintro e w9 ⟨rfl, rfl⟩
              go_wp2_with fail
              go_roundw
              case rel => exact ⟨m + 1, by omega, by rw [HE.out]; rfl, by go_num, trivial⟩
              case measure => simp [intOf]; omega
          · have HTT : Hid (readyK cs (k : Int) (ls[k].take m) = readyP ls cs (k : Int)) := by
              show _ = _
              rw [List.take_of_length_le (by omega)]
              exact HAL.out
            generalize readyK cs (k : Int) (ls[k].take m) = r0 at *
            cases r0 with
            | false =>
              have HE2 := Lib.hid (HNE.out HTT.out.symm)
              go_wp2_with fail
              go_roundw
              case rel => exact ⟨k + 1, by omega, by go_num, by rw [HE2.out]; exact HO, HB⟩
              case measure => simp [intOf]; omega
            | true =>
              have HE2 := Lib.hid (HYE.out HTT.out.symm)
              have HNA := Lib.hid (own_Z HO.out)
              have hIl : (I mm).length ≤ 1000000 := by rw [I_len]; omega
              clear HO
              go_wp2_with (at_builtin; refine wpAppOne elemI rfl _ _ rfl w.heap.size _ (I mm) rfl HNA.out _ rfl rfl rfl hIl HB.out.size ?_; intro v7 w7 hown7 hg7; have HN7 := Lib.hid (own_Z2 hown7); have HB7 := Lib.hid (HB.out.trans (below_own HNA.out hg7 HB.out.size)); clear hown7 hg7)
              go_roundw
              case rel => exact ⟨k + 1, by omega, by go_num, by rw [HE2.out]; exact HN7, HB7⟩
              case measure => simp [intOf]; omega
      · obtain rfl : k = ls.length := by omega
        rw [← HR.out] at HO
        obtain ⟨ra, rc, hq⟩ := own_slice HO.out
        subst hq
        go_wp2_with fail
        go_ret2
        exact ⟨_, rfl, HO.out, HB.out⟩

/-- One that is touched and needed. -/
noncomputable def mustP (ls : List (List Int)) (cs ds : List Int) (y : Int) : Bool := hasL (touchS ls cs) y && hasL (needS ls ds) y
noncomputable def mustA_v (ls : List (List Int)) (l cs ds : List Int) : List Int := l.filter (mustP ls cs ds)
noncomputable def mustA (ls : List (List Int)) (l cs ds : List Int) : List Int := if someG ls l cs && someG ls l ds then mustA_v ls l cs ds else []
theorem mustA_no {ls : List (List Int)} {l cs ds : List Int} (h : (someG ls l cs && someG ls l ds) = false) : mustA ls l cs ds = [] := by unfold mustA; rw [h]; rfl
theorem mustA_yes {ls : List (List Int)} {l cs ds : List Int} (h : (someG ls l cs && someG ls l ds) = true) : mustA ls l cs ds = mustA_v ls l cs ds := by unfold mustA; rw [h]; rfl
theorem mustA_short (ls : List (List Int)) (l cs ds : List Int) : (mustA ls l cs ds).length ≤ 1000000 := by
  rcases h : (someG ls l cs && someG ls l ds) with _ | _
  · rw [mustA_no h]; simp
  · rw [mustA_yes h]
    have h1 := (some_yes2 h).1.high
    have h2 := (some_yes2 h).1.same
    exact Nat.le_trans (List.length_filter_le _ _) (by omega)

set_option maxRecDepth 20000 in
set_option maxHeartbeats 8000000 in
theorem specMust_any (ls : List (List Int)) (l cs ds : List Int) (v ucs uds : Value) (w : World) (hst : GraphV w v ls l) (hcs : RowV w ucs (I cs)) (hds : RowV w uds (I ds)) :
    Calls Try.prog 45 #[v, ucs, uds] w (ListOk (mustA ls l cs ds) (someG ls l cs && someG ls l ds) w) := by
  have HV := Lib.hid hst
  obtain ⟨nv, ov, rfl, h1, h2⟩ := hst
  obtain ⟨an, cn, rfl, hn1, hn2, hat⟩ := h1.lists
  obtain ⟨ao, co, rfl, ho1, ho2, hao⟩ := h2.ints
  clear h1 h2
  unfold maxLen at hn2 ho2
  have HAT := Lib.hid hat
  have HAO := Lib.hid hao
  clear hat hao
  obtain ⟨wa, hwa⟩ : ∃ wa, wa = w.alloc (.cells #[.slice an ls.length cn, .slice ao l.length co] 26) := ⟨_, rfl⟩
  have P0 : Hid (Blk2 wa w.heap.size 26 (.slice an ls.length cn) (.slice ao l.length co)) := by rw [hwa]; exact Blk2.new
  have HA : Hid (Below w.heap.size w wa) := by rw [hwa]; exact (Below.refl w.heap.size w).alloc (Nat.le_refl _) _
  have hsa : wa.heap.size = w.heap.size + 1 := by rw [hwa]; simp
  have HSA := Lib.hid hsa
  have hsz : w.heap.size < wa.heap.size := by omega
  have HWA := Lib.hid hwa
  obtain ⟨c0, c1⟩ := P0.out.cells
  have HUcs := Lib.hid hcs
  obtain ⟨xacs, xccs, rfl, hxlcs, hxmcs, _⟩ := hcs.ints
  clear hcs
  unfold maxLen at hxmcs
  have HUds := Lib.hid hds
  obtain ⟨xads, xcds, rfl, hxlds, hxmds, _⟩ := hds.ints
  clear hds
  unfold maxLen at hxmds
  have HTcs := Lib.hid (fun W (h : Below wa.heap.size wa W) => l6Some_any ls l cs _ _ W (HV.out.below (bth HA.out h (Nat.le_refl _))) (HUcs.out.below (bth HA.out h (Nat.le_refl _))))
  have HTds := Lib.hid (fun W (h : Below wa.heap.size wa W) => l6Some_any ls l ds _ _ W (HV.out.below (bth HA.out h (Nat.le_refl _))) (HUds.out.below (bth HA.out h (Nat.le_refl _))))
  have HNo : Hid ((someG ls l cs && someG ls l ds) = false → mustA ls l cs ds = []) := fun h => mustA_no h
  have HYes : Hid ((someG ls l cs && someG ls l ds) = true → mustA ls l cs ds = mustA_v ls l cs ds ∧ GoodG ls l ∧ (Rise cs ∧ ∀ x ∈ cs, 0 ≤ x ∧ x < (ls.length : Int)) ∧ (Rise ds ∧ ∀ x ∈ ds, 0 ≤ x ∧ x < (ls.length : Int))) := fun h => ⟨mustA_yes h, some_yes2 h⟩
  generalize mustA ls l cs ds = R at *
  generalize someG ls l cs = bcs at *
  generalize someG ls l ds = bds at *
  clear hwa
  go_enter Try.func45, Try.ntmps45
  go_wp2_with fail
  rw [← HWA.out]
  refine (HTcs.out wa (Below.refl _ _)).mono ?_
  rintro e w1 ⟨rfl, hb1⟩
  have K1 := Lib.hid hb1
  obtain ⟨p1, q1⟩ := (P0.out.below K1.out hsz).cells
  clear hb1 c0 c1
  cases bcs with
  | false =>
    have hR := HNo.out rfl
    subst hR
    clear HNo HYes HTcs HTds
    go_wp2_with fail
    go_ret2
    exact ⟨_, rfl, none_ownZ _ _ _, bth HA.out K1.out (Nat.le_refl _)⟩
  | true =>
    go_wp2_with fail
    refine (HTds.out w1 K1.out).mono ?_
    rintro e w2 ⟨rfl, hb2⟩
    have K2 := Lib.hid (bth K1.out hb2 (Nat.le_refl _))
    obtain ⟨p2, q2⟩ := (P0.out.below K2.out hsz).cells
    clear hb2 p1 q1
    cases bds with
    | false =>
      have hR := HNo.out rfl
      subst hR
      clear HNo HYes HTcs HTds
      go_wp2_with fail
      go_ret2
      exact ⟨_, rfl, none_ownZ _ _ _, bth HA.out K2.out (Nat.le_refl _)⟩
    | true =>
      obtain ⟨hR, hG, hccs, hcds⟩ := HYes.out rfl
      clear HNo HYes HTcs HTds
      have HKW := Lib.hid (bth HA.out K2.out (Nat.le_refl _))
      have PW := Lib.hid (P0.out.below K2.out hsz)
      have hszW := Nat.lt_of_lt_of_le hsz K2.out.size
      have HR : Hid (R = l.filter (mustP ls cs ds)) := hR
      have h10 : l.length ≤ 10 := by have := hG.high; have := hG.same; omega
      have HC := Lib.hid (l6Touched_any ls l cs _ _ w2 (HV.out.below HKW.out) (HUcs.out.below HKW.out) hG hccs.1 hccs.2)
      have HD := Lib.hid (fun W (h : Below w.heap.size w W) => l6Needed_any ls l ds _ _ W (HV.out.below h) (HUds.out.below h) hG hcds.1 hcds.2)
      have HP : Hid (∀ y, mustP ls cs ds y = (hasL (touchS ls cs) y && hasL (needS ls ds) y)) := fun _ => rfl
      clear hR hG hccs hcds
      generalize touchS ls cs = ta at *
      generalize needS ls ds = tb at *
      generalize mustP ls cs ds = mp at *
      go_wp2_with fail
      refine HC.out.mono ?_
      rintro e wx ⟨vx, rfl, hox, hbx⟩
      have KX := Lib.hid (bth HKW.out hbx (Nat.le_refl _))
      have HOX := Lib.hid hox
      have d0 := (PW.out.below hbx hszW).cells.1
      have d1 := (PW.out.below hbx hszW).cells.2
      have PX := Lib.hid (PW.out.below hbx hszW)
      have hszX := Nat.lt_of_lt_of_le hszW hbx.size
      obtain ⟨xa, xc, hqx⟩ := own_slice hox
      subst hqx
      clear hox hbx p2 q2
      go_wp2_with fail
      refine (HD.out wx KX.out).mono ?_
      rintro e wy ⟨vy, rfl, hoy, hby⟩
      have KY := Lib.hid (bth KX.out hby (Nat.le_refl _))
      have HRX := Lib.hid (RowV.of_own (own_below HOX.out hby))
      have HRY := Lib.hid (RowV.of_own hoy)
      have e1 := (PX.out.below hby hszX).cells.2
      obtain ⟨ya, yc, hqy⟩ := own_slice hoy
      subst hqy
      clear hoy hby d0 d1
      go_wp2_with fail
      clear e1
      go_loopw [10, 32] (fun q i wr => ∃ k : Nat, k ≤ l.length ∧ i = .int .i64 (k : Int) ∧ Hid (wr.ownsRow wy.heap.size 3 1 q ((l.take k).filter mp).length (I ((l.take k).filter mp))) ∧ Hid (Below wy.heap.size wy wr)) (fun _ i _ => l.length - (intOf i).toNat)
      case atStart => exact ⟨0, Nat.zero_le _, rfl, none_ownZ _ _ _, Below.refl _ _⟩
      case round =>
        obtain ⟨k, hk, rfl, HO, HB⟩ := hrel
        have HBW := Lib.hid (bth KY.out HB.out (Nat.le_refl _))
        by_cases hlt : k < l.length
        · obtain ⟨ra, rc, hq⟩ := own_slice HO.out
          subst hq
          obtain ⟨g, o, hgo, hg, hcell0⟩ := HAO.out k hlt
          subst hgo
          have hcell : wr.cell? ⟨g, o + k, none⟩ = some (.int .i64 l[k]) := (HBW.out.cell (p := ⟨g, o + k, none⟩) hg).trans hcell0
          have HH1 := l1Has_any ta l[k] _ wr (HRX.out.below HB.out)
          have HH2 := l1Has_any tb l[k] _ wr (HRY.out.below HB.out)
          have hfl : ((l.take k).filter mp).length ≤ 10 := by have := List.length_filter_le mp (l.take k); rw [List.length_take] at this; omega
          have HYE : Hid (mp l[k] = true → (l.take (k + 1)).filter mp = (l.take k).filter mp ++ [l[k]]) := fun h => filter_yes hlt h
          have HNE : Hid (mp l[k] = false → (l.take (k + 1)).filter mp = (l.take k).filter mp) := fun h => filter_no hlt h
          have HPK := Lib.hid (HP.out l[k])
          generalize (l.take k).filter mp = mm at *
          generalize l[k] = xk at *
          have HC1 := Lib.hid HH1
          have HC2 := Lib.hid HH2
          clear HH1 HH2 hcell0
          generalize hasL ta xk = ba at *
          generalize hasL tb xk = bb at *
          cases ba with
          | false =>
            have HE2 := Lib.hid (HNE.out HPK.out)
            go_wp2_with fail
            refine HC1.out.mono ?_
            rintro e w8 ⟨rfl, rfl⟩
            go_wp2_with fail
            go_roundw
            case rel => exact ⟨k + 1, by omega, by go_num, by rw [HE2.out]; exact HO, HB⟩
            case measure => simp [intOf]; omega
          | true =>
            cases bb with
            | false =>
              have HE2 := Lib.hid (HNE.out HPK.out)
              go_wp2_with fail
              refine HC1.out.mono ?_
              rintro e w8 ⟨rfl, rfl⟩
              go_wp2_with fail
              refine HC2.out.mono ?_
              rintro e w9 ⟨rfl, rfl⟩
              go_wp2_with fail
              go_roundw
              case rel => exact ⟨k + 1, by omega, by go_num, by rw [HE2.out]; exact HO, HB⟩
              case measure => simp [intOf]; omega
            | true =>
              have HE2 := Lib.hid (HYE.out HPK.out)
              have HNA := Lib.hid (own_Z HO.out)
              have hIl : (I mm).length ≤ 1000000 := by rw [I_len]; omega
              clear HO
              go_wp2_with fail
              refine HC1.out.mono ?_
              rintro e w8 ⟨rfl, rfl⟩
              go_wp2_with fail
              refine HC2.out.mono ?_
              rintro e w9 ⟨rfl, rfl⟩
              go_wp2_with (at_builtin; refine wpAppOne elemI rfl _ _ rfl wy.heap.size _ (I mm) rfl HNA.out _ rfl rfl rfl hIl HB.out.size ?_; intro v7 w7 hown7 hg7; have HN7 := Lib.hid (own_Z2 hown7); have HB7 := Lib.hid (HB.out.trans (below_own HNA.out hg7 HB.out.size)); clear hown7 hg7)
              go_roundw
              case rel => exact ⟨k + 1, by omega, by go_num, by rw [HE2.out]; exact HN7, HB7⟩
              case measure => simp [intOf]; omega
        · rw [List.take_of_length_le (by omega), ← HR.out] at HO
          obtain ⟨ra, rc, hq⟩ := own_slice HO.out
          subst hq
          go_wp2_with fail
          go_ret2
          exact ⟨_, rfl, own_base HO.out KY.out.size, HBW.out⟩
end Go.Proofs.Ytpjmdljjmknpkaa

/- Marks as mathematics; markUsers again, with what it leaves as it was. -/
namespace Go.Proofs.Ytpjmdljjmknpkaa
open Go.RowKit Pth

theorem Up.congr {ls : List (List Int)} {l : List Int} (hg : GoodP ls l) {P Q : Int → Prop} (h : ∀ z ∈ l, P z → Q z) {y : Int} (hy : y ∈ l) (hu : Up ls P y) : Up ls Q y := by
  induction hu with
  | base hp => exact .base (h _ hy hp)
  | @step k x h0 hx _ ih =>
    obtain ⟨i, hi, rfl⟩ := List.getElem_of_mem hy
    exact .step h0 hx (ih (List.mem_of_mem_take (hg.needs_take hi hx)))
theorem Dn.congr {ls : List (List Int)} {l : List Int} (hg : GoodP ls l) {P Q : Int → Prop} (h : ∀ z ∈ l, P z → Q z) (hP : ∀ z, P z → z ∈ l) {y : Int} (hu : Dn ls P y) : Dn ls Q y := by
  have key : ∀ {y}, Dn ls P y → y ∈ l := by
    intro y hy
    cases hy with
    | base hp => exact hP _ hp
    | @step k u h0 hx _ =>
      obtain ⟨i, hi, rfl⟩ := List.getElem_of_mem (hg.all.2 ⟨h0, needs_in h0 hx⟩)
      exact List.mem_of_mem_take (hg.needs_take hi hx)
  induction hu with
  | base hp => exact .base (h _ (hP _ hp) hp)
  | step h0 hx _ ih => exact .step h0 hx ih
theorem markB_set {bs : List Bool} {u : Nat} {b : Bool} {z : Int} (hu : u < bs.length) (hz : 0 ≤ z) : markB (bs.set u b) z = if z = (u : Int) then b else markB bs z := by
  obtain ⟨n, rfl⟩ : ∃ n : Nat, z = n := ⟨z.toNat, by omega⟩
  unfold markB
  rw [show ((n : Int)).toNat = n by omega, List.getD_eq_getElem?_getD, List.getD_eq_getElem?_getD, List.getElem?_set]
  by_cases h : n = u
  · subst h; simp [hu]
  · rw [if_neg (fun e => h e.symm), if_neg (by omega)]
theorem markOne_mem {u : Nat} {nd : List Int} (hn : (u : Int) ∉ nd) (h0 : ∀ x ∈ nd, 0 ≤ x) : ∀ {bs : List Bool} (_ : u < bs.length) {y : Int} (_ : 0 ≤ y), markB (markOne u bs nd) y = true ↔ markB bs y = true ∨ (y = (u : Int) ∧ ∃ x ∈ nd, markB bs x = true) := by
  induction nd with
  | nil => intro bs hu y hy; simp [markOne]
  | cons x r ih =>
    intro bs hu y hy
    rw [List.mem_cons, not_or] at hn
    have hx0 := h0 x (by simp)
    show markB (markOne u (bs.set u (markB bs u || markB bs x)) r) y = true ↔ _
    have hlen : u < (bs.set u (markB bs u || markB bs x)).length := by rw [List.length_set]; exact hu
    rw [ih hn.2 (fun z hz => h0 z (by simp [hz])) hlen hy, markB_set hu hy]
    have key : ∀ z ∈ r, markB (bs.set u (markB bs u || markB bs x)) z = markB bs z := fun z hz => by
      rw [markB_set hu (h0 z (by simp [hz])), if_neg (fun e => hn.2 (by rw [← e]; exact hz))]
    by_cases hyu : y = (u : Int)
    · subst hyu
      rw [if_pos rfl, Bool.or_eq_true]
      constructor
      · rintro ((h | h) | ⟨_, z, hz, h⟩)
        · exact .inl h
        · exact .inr ⟨rfl, x, by simp, h⟩
        · exact .inr ⟨rfl, z, by simp [hz], by rw [← key z hz]; exact h⟩
      · rintro (h | ⟨_, z, hz, h⟩)
        · exact .inl (.inl h)
        · rw [List.mem_cons] at hz
          rcases hz with rfl | hz
          · exact .inl (.inr h)
          · exact .inr ⟨rfl, z, hz, by rw [key z hz]; exact h⟩
    · rw [if_neg hyu]
      constructor
      · rintro (h | ⟨h, _⟩)
        · exact .inl h
        · exact absurd h hyu
      · rintro (h | ⟨h, _⟩)
        · exact .inl h
        · exact absurd h hyu
theorem markUs_up {ls : List (List Int)} {l : List Int} (hg : GoodP ls l) {bs : List Bool} (hb : bs.length = ls.length) : ∀ y ∈ l, (markB (markUs ls bs l) y = true ↔ Up ls (fun z => markB bs z = true) y) := by
  have := up_whole hg (P := fun z => markB bs z = true) (S := fun k y => markB (markUs ls bs (l.take k)) y = true) (fun y _ => by simp [markUs]) (fun k hk y hy => by
    show markB (markUs ls bs (l.take (k + 1))) y = true ↔ _
    have hr := hg.range _ (List.getElem_mem hk)
    obtain ⟨u, hu⟩ : ∃ u : Nat, l[k] = u := ⟨l[k].toNat, by omega⟩
    have hs := hg.self hk
    have hn0 : ∀ x ∈ needsAt ls l[k], 0 ≤ x := fun x hx => (hg.range x (List.mem_of_mem_take (hg.needs_take hk hx))).1
    rw [List.take_succ_eq_append_getElem hk, markUs_snoc]
    rw [hu] at hs hn0 ⊢
    rw [show ((u : Int)).toNat = u by omega]
    exact markOne_mem hs hn0 (by rw [markUs_len, hb]; omega) (hg.range y hy).1)
  simpa using this

/-- The marks of each of some, one by one. -/
def marksOf (F : List (List Int) → List Int → Nat → List Bool → List Bool) (ls : List (List Int)) (l cs : List Int) : List Bool := cs.foldl (fun b c => F ls l c.toNat b) (List.replicate ls.length false)
theorem marksOf_snoc (F : List (List Int) → List Int → Nat → List Bool → List Bool) (ls : List (List Int)) (l cs : List Int) (c : Int) : marksOf F ls l (cs ++ [c]) = F ls l c.toNat (marksOf F ls l cs) := by
  unfold marksOf; rw [List.foldl_append]; rfl
def usersF (ls : List (List Int)) (l : List Int) (t : Nat) (bs : List Bool) : List Bool := markUs ls (bs.set t true) l
theorem marksOf_len {F : List (List Int) → List Int → Nat → List Bool → List Bool} (hF : ∀ ls l t bs, (F ls l t bs).length = bs.length) (ls : List (List Int)) (l : List Int) (cs : List Int) : (marksOf F ls l cs).length = ls.length := by
  have key : ∀ (cs : List Int) (bs : List Bool), (cs.foldl (fun b c => F ls l c.toNat b) bs).length = bs.length := by
    intro cs
    induction cs with
    | nil => intro bs; rfl
    | cons c r ih => intro bs; rw [List.foldl_cons, ih, hF]
  unfold marksOf
  rw [key, List.length_replicate]
theorem usersF_len (ls : List (List Int)) (l : List Int) (t : Nat) (bs : List Bool) : (usersF ls l t bs).length = bs.length := by unfold usersF; rw [markUs_len, List.length_set]
theorem markB_none (n : Nat) (y : Int) : markB (List.replicate n false) y = false := by
  unfold markB
  rw [List.getD_eq_getElem?_getD, List.getElem?_replicate]
  split <;> rfl
theorem rev_ind {motive : List Int → Prop} (h0 : motive []) (hs : ∀ cs c, motive cs → motive (cs ++ [c])) : ∀ cs, motive cs := by
  intro cs
  have : ∀ n (cs : List Int), cs.length = n → motive cs := by
    intro n
    induction n with
    | zero => intro cs h; rw [List.eq_nil_of_length_eq_zero h]; exact h0
    | succ n ih =>
      intro cs h
      have hne : cs ≠ [] := fun e => by rw [e] at h; simp at h
      rw [← List.dropLast_concat_getLast hne]
      exact hs _ _ (ih _ (by rw [List.length_dropLast]; omega))
  exact this _ cs rfl
theorem users_marks {ls : List (List Int)} {l : List Int} (hg : GoodP ls l) : ∀ cs : List Int, (∀ x ∈ cs, 0 ≤ x ∧ x < (ls.length : Int)) → ∀ y ∈ l, (markB (marksOf usersF ls l cs) y = true ↔ Up ls (· ∈ cs) y) := by
  refine rev_ind ?_ ?_
  · intro _ y _
    show markB (List.replicate ls.length false) y = true ↔ _
    rw [markB_none]
    constructor
    · intro h; cases h
    · intro h; exact absurd (h.mono (Q := fun _ => False) (fun x hx => by simp at hx)) Up.none
  · intro cs c ih hc y hy
    have hcr := hc c (by simp)
    have ihc := ih (fun x hx => hc x (by simp [hx]))
    have hlen := marksOf_len usersF_len ls l cs
    obtain ⟨t, rfl⟩ : ∃ t : Nat, c = t := ⟨c.toNat, by omega⟩
    rw [marksOf_snoc, show ((t : Int)).toNat = t by omega, usersF, markUs_up hg (by rw [List.length_set, hlen]) y hy]
    have hset : ∀ z ∈ l, (markB ((marksOf usersF ls l cs).set t true) z = true ↔ z = (t : Int) ∨ Up ls (· ∈ cs) z) := fun z hz => by
      rw [markB_set (by omega) (hg.range z hz).1, ← ihc z hz]
      by_cases h : z = (t : Int)
      · simp [h]
      · rw [if_neg h]; simp [h]
    constructor
    · intro h
      refine Up.twice (P := fun z => z = (t : Int) ∨ Up ls (· ∈ cs) z) (fun x hx => ?_) (Up.congr hg (fun z hz h => (hset z hz).1 h) hy h)
      rcases hx with rfl | hx
      · exact .base (by simp)
      · exact hx.mono (fun z hz => by simp [hz])
    · intro h
      refine Up.congr hg (fun z hz h => (hset z hz).2 ?_) hy h
      rw [List.mem_append, List.mem_singleton] at h
      rcases h with h | h
      · exact .inr (.base h)
      · exact .inl h
theorem users_told {ls : List (List Int)} {l cs : List Int} (hg : GoodP ls l) (hc : ∀ x ∈ cs, 0 ≤ x ∧ x < (ls.length : Int)) : ∀ y ∈ l, markB (marksOf usersF ls l cs) y = hasL (touchS ls cs) y := by
  intro y hy
  rw [Bool.eq_iff_iff, users_marks hg cs hc y hy, hasL, decide_eq_true_iff, mem_touchS]
  exact ⟨fun h => ⟨hg.range y hy, h⟩, fun h => h.2⟩

set_option maxRecDepth 20000 in
set_option maxHeartbeats 8000000 in
theorem markUsersG_any (ls : List (List Int)) (l st : List Int) (t : Nat) (bs : List Bool) (v s : Value) (gm cm : Nat) (w0 w : World) (hst : GraphV w0 v ls l) (hsr : RowV w0 s (I st)) (hb0 : Below w0.heap.size w0 w)
    (hown : w.ownsRow w0.heap.size 4 1 (.slice (some ⟨gm, 0, none⟩) bs.length cm) bs.length (Bo bs)) (hbl : bs.length = ls.length) (h10 : ls.length ≤ 10) (ht : t < ls.length) (hin : ∀ x ∈ st, 0 ≤ x ∧ x < (ls.length : Int)) (hnd : ∀ k (hk : k < ls.length), ∀ x ∈ ls[k], 0 ≤ x ∧ x < (ls.length : Int)) :
    Calls Try.prog 118 #[v, s, .int .i64 (t : Int), .slice (some ⟨gm, 0, none⟩) bs.length cm] w fun e w' => e = .returned (.tuple #[]) ∧ Below w0.heap.size w0 w' ∧ w'.ownsRow w0.heap.size 4 1 (.slice (some ⟨gm, 0, none⟩) bs.length cm) bs.length (Bo (markUs ls (bs.set t true) st)) ∧ w.grownBy w' (some gm) := by
  have HV := Lib.hid hst
  have HS := Lib.hid hsr
  obtain ⟨B, hBB⟩ : ∃ B, B = w0.heap.size := ⟨_, rfl⟩
  rw [← hBB] at hb0 hown
  rw [← hBB]
  have hB : B ≤ w.heap.size := by have := hb0.size; omega
  have HB00 := Lib.hid hb0
  have HBB := Lib.hid hBB
  obtain ⟨nv, ov, rfl, h1, h2⟩ := hst
  obtain ⟨an, cn, rfl, hn1, hn2, hat⟩ := h1.lists
  obtain ⟨ao, co, rfl, ho1, ho2, _⟩ := h2.ints
  obtain ⟨sa, sc, rfl, hs1, hs2, hsat⟩ := hsr.ints
  clear h1 h2 hsr
  unfold maxLen at hn2 ho2 hs2
  have HAT := Lib.hid hat
  have HSA := Lib.hid hsat
  have HIN := Lib.hid hin
  have HND := Lib.hid hnd
  clear hat hsat hin hnd hb0 hBB
  obtain ⟨wa, hwa⟩ : ∃ wa, wa = w.alloc (.cells #[.slice an ls.length cn, .slice ao l.length co] 26) := ⟨_, rfl⟩
  have P0 : Hid (Blk2 wa w.heap.size 26 (.slice an ls.length cn) (.slice ao l.length co)) := by rw [hwa]; exact Blk2.new
  have HA : Hid (Below B w0 wa) := by rw [hwa]; exact HB00.out.alloc hB _
  have hgl := hown.lt gm rfl
  have hBa : B ≤ wa.heap.size := by rw [hwa]; simp; omega
  have hcm : bs.length ≤ cm ∧ cm ≤ 2 ^ 63 - 1 := by
    rcases hown.2 with ⟨h, _⟩ | ⟨g, cap, cur, hv, _, _, hcap, hmx, _⟩
    · injection h with h _ _; cases h
    · unfold maxLen at hmx; injection hv with _ _ h3; omega
  obtain ⟨hcm1, hcm2⟩ := hcm
  have ho1' := hown.alloc (.cells #[.slice an ls.length cn, .slice ao l.length co] 26)
  have htb : t < bs.length := by omega
  have htb2 : (t : Int) < (bs.length : Int) := by omega
  have hfz := ho1'.frozenAt t
  have hcz : (w.alloc (.cells #[.slice an ls.length cn, .slice ao l.length co] 26)).cell? ⟨gm, t, none⟩ = some (.bool bs[t]) := by rw [ho1'.cellAt t (by omega), Bo_get? htb]
  have hst := ho1'.stored t (.bool true)
  rw [Bo_set] at hst
  obtain ⟨w2, hw2⟩ : ∃ w2, w2 = (w.alloc (.cells #[.slice an ls.length cn, .slice ao l.length co] 26)).setCell ⟨gm, t, none⟩ (.bool true) := ⟨_, rfl⟩
  rw [← hw2, ← hwa] at hst
  have HO0 := Lib.hid hst.1
  have HB0 := Lib.hid (HA.out.trans (only_below hst.2 hgl.1 hBa))
  have HG0 : Hid (w.grownBy w2 (some gm)) := grown_trans (below_grown (show Below w.heap.size w wa by rw [hwa]; exact (Below.refl w.heap.size w).alloc (Nat.le_refl _) _)) hst.2
  have HP0 := Lib.hid (P0.out.beside hst.2 (by intro e; have := Option.some.inj e; omega))
  have HW2 := Lib.hid hw2
  have HBL := Lib.hid hbl
  have hg1 : B ≤ gm := hgl.1
  have hg2 : gm < w.heap.size := hgl.2
  have HG2 := Lib.hid hg2
  clear hown ho1' hst hw2 hwa hbl hgl hg2
  go_enter Try.func118, Try.ntmps118
  go_wp2_with fail
  rw [← HW2.out]
  clear hfz hcz HW2
  have HLN := Lib.hid (fun k => markUs_len ls (st.take k) (bs.set t true))
  go_loopw [17] (fun i wr => ∃ k : Nat, k ≤ st.length ∧ i = .int .i64 (k : Int) ∧ Hid (w.grownBy wr (some gm)) ∧ Hid (Below B w0 wr) ∧ Hid (Blk2 wr w.heap.size 26 (.slice an ls.length cn) (.slice ao l.length co)) ∧ Hid (wr.ownsRow B 4 1 (.slice (some ⟨gm, 0, none⟩) bs.length cm) bs.length (Bo (markUs ls (bs.set t true) (st.take k))))) (fun i _ => st.length - (intOf i).toNat)
  case atStart => exact ⟨0, Nat.zero_le _, rfl, HG0, HB0, HP0, HO0⟩
  case round =>
    clear HB0 HP0 HO0 HG0
    obtain ⟨k, hk, rfl, HG, HB, HP, HO⟩ := hrel
    by_cases hlt : k < st.length
    · obtain ⟨un, hun⟩ : ∃ un : Nat, st[k] = un := ⟨st[k].toNat, by have := HIN.out st[k] (List.getElem_mem hlt); omega⟩
      have hul : un < ls.length := by have := HIN.out st[k] (List.getElem_mem hlt); omega
      have hul2 : (un : Int) < (ls.length : Int) := by omega
      obtain ⟨g, o, hgo, hgg, hcell0⟩ := HSA.out k hlt
      subst hgo
      have hcell : wr.cell? ⟨g, o + k, none⟩ = some (.int .i64 (un : Int)) := by rw [HB.out.cell (p := ⟨g, o + k, none⟩) (by rw [HBB.out]; exact hgg), hcell0, hun]
      obtain ⟨d0, d1⟩ := HP.out.cells
      obtain ⟨g1, o1, a2, c2, hgn, hg1', hcell1, hrow⟩ := HAT.out un hul
      have hcn : wr.cell? ⟨g1, o1 + un, none⟩ = some (.slice a2 ls[un].length c2) := by rw [HB.out.cell (p := ⟨g1, o1 + un, none⟩) (by rw [HBB.out]; exact hg1'), hcell1]
      have hnl : ls[un].length ≤ c2 ∧ c2 ≤ 2 ^ 63 - 1 := by
        obtain ⟨_, _, h, h', h4, _⟩ := hrow.ints
        unfold maxLen at h4
        injection h with _ _ h3; omega
      obtain ⟨hnl, hc2⟩ := hnl
      subst hgn
      have HBK : Hid (markUs ls (bs.set t true) (st.take (k + 1)) = markOne un (markUs ls (bs.set t true) (st.take k)) ls[un]) := by
        show _ = _
        rw [List.take_succ_eq_append_getElem hlt, markUs_snoc, hun, needsAt_get hul]
        rfl
      have hbk : (markUs ls (bs.set t true) (st.take k)).length = bs.length := by rw [markUs_len, List.length_set]
      have HRW : Hid (∀ W, Below B w0 W → ∀ m (hm : m < ls[un].length), ∃ gr or, a2 = some ⟨gr, or, none⟩ ∧ W.cell? ⟨gr, or + m, none⟩ = some (.int .i64 ls[un][m])) := by
        intro W hW m hm
        obtain ⟨_, _, h, _, _, hc⟩ := hrow.ints
        injection h with h1 _ _
        obtain ⟨gr, or, h2, h3, h4⟩ := hc m hm
        exact ⟨gr, or, by rw [h1, h2], by rw [hW.cell (p := ⟨gr, or + m, none⟩) (by rw [HBB.out]; exact h3), h4]⟩
      generalize markUs ls (bs.set t true) (st.take k) = bk at *
      have HBKL := Lib.hid hbk
      clear hcell0 hcell1 hrow hun hbk
      go_wp2_with fail
      clear hcell hcn d0 d1
      go_loopw [27] (fun i wz => ∃ m : Nat, m ≤ ls[un].length ∧ i = .int .i64 (m : Int) ∧ Hid (w.grownBy wz (some gm)) ∧ Hid (Below B w0 wz) ∧ Hid (Blk2 wz w.heap.size 26 (.slice (some ⟨g1, o1, none⟩) ls.length cn) (.slice ao l.length co)) ∧ Hid (wz.ownsRow B 4 1 (.slice (some ⟨gm, 0, none⟩) bs.length cm) bs.length (Bo (markOne un bk (ls[un].take m))))) (fun i _ => ls[un].length - (intOf i).toNat)
      case atStart => exact ⟨0, Nat.zero_le _, rfl, HG, HB, HP, HO⟩
      case round =>
        clear HB HP HO HG
        obtain ⟨m, hm, rfl, HG, HB, HP, HO⟩ := hrel
        by_cases hlt2 : m < ls[un].length
        · have hxm := HND.out un hul ls[un][m] (List.getElem_mem hlt2)
          obtain ⟨kn, hkn⟩ : ∃ kn : Nat, ls[un][m] = kn := ⟨ls[un][m].toNat, by omega⟩
          have hkl : kn < bs.length := by have := HBL.out; omega
          have hul3 : un < bs.length := by have := HBL.out; omega
          have hkl2 : (kn : Int) < (bs.length : Int) := by omega
          have hul4 : (un : Int) < (bs.length : Int) := by omega
          obtain ⟨gr, or, hra, hcr⟩ := HRW.out wr HB.out m hlt2
          subst hra
          rw [hkn] at hcr
          have hln : (markOne un bk (ls[un].take m)).length = bs.length := by rw [markOne_len, HBKL.out]
          have HE : Hid (markOne un bk (ls[un].take (m + 1)) = (markOne un bk (ls[un].take m)).set un (markB (markOne un bk (ls[un].take m)) un || markB (markOne un bk (ls[un].take m)) kn)) := by
            show _ = _
            rw [List.take_succ_eq_append_getElem hlt2, markOne_snoc, hkn]
          generalize markOne un bk (ls[un].take m) = bo at *
          have hcu : wr.cell? ⟨gm, un, none⟩ = some (.bool (markB bo un)) := by rw [HO.out.cellAt un (by omega), Bo_get? (by omega), markB_get (by omega)]
          have hck : wr.cell? ⟨gm, kn, none⟩ = some (.bool (markB bo kn)) := by rw [HO.out.cellAt kn (by omega), Bo_get? (by omega), markB_get (by omega)]
          have hf2 := HO.out.frozenAt un
          have hst := HO.out.stored un (.bool (markB bo un || markB bo kn))
          rw [Bo_set, ← HE.out] at hst
          have HO1 := Lib.hid hst.1
          have HG1 := Lib.hid (grown_trans HG.out hst.2)
          have HB1 := Lib.hid (HB.out.trans (only_below hst.2 hg1 (by rw [HBB.out]; exact HB.out.size)))
          have HP1 := Lib.hid (HP.out.beside hst.2 (by intro e; have := Option.some.inj e; have := HG2.out; omega))
          clear hst HE hln hkn hxm HO HP HB
          generalize markB bo (un : Int) = bu at *
          generalize markB bo (kn : Int) = bn at *
          cases bu with
          | true =>
            go_wp2_with fail
            go_roundw
            case rel => exact ⟨m + 1, by omega, by go_num, HG1, HB1, HP1, HO1⟩
            case measure => simp [intOf]; omega
          | false =>
            rw [Bool.false_or] at HO1 HB1 HP1 HG1
            go_wp2_with fail
            go_roundw
            case rel => exact ⟨m + 1, by omega, by go_num, HG1, HB1, HP1, HO1⟩
            case measure => simp [intOf]; omega
        · rw [List.take_of_length_le (by omega), ← HBK.out] at HO
          go_wp2_with fail
          go_roundw
          case rel => exact ⟨k + 1, by omega, by go_num, HG, HB, HP, HO⟩
          case measure => simp [intOf]; omega
    · rw [List.take_of_length_le (by omega)] at HO
      go_wp2_with fail
      go_end0
      exact ⟨rfl, HB.out, HO.out, HG.out⟩
end Go.Proofs.Ytpjmdljjmknpkaa

/- Walks: markedTest at a function value, touchedTest, TouchedBy of the program. -/
namespace Go.Proofs.Ytpjmdljjmknpkaa
open Go.RowKit Pth

theorem Blk1.beside {w w' : World} {b t : Nat} {x : Value} {r : Option Nat} (h : Blk1 w b t x) (hg : w.grownBy w' r) (hne : r ≠ some b) : Blk1 w' b t x := (hg.block b (lt_of_block h) (fun e => hne e.symm)).trans h
theorem TestS.congr {w : World} {fv : Value} {D : Int → Prop} {p q : Int → Bool} (h : TestS w fv D p) (he : ∀ x, D x → p x = q x) : TestS w fv D q := by
  obtain ⟨K, cap, h1, h2, h3⟩ := h
  exact ⟨K, cap, h1, h2, fun W hW x hx => by rw [← he x hx]; exact h3 W hW x hx⟩
theorem TestV.congr {w : World} {fv : Value} {D : Int → Prop} {p q : Int → Bool} (h : TestV w fv D p) (he : ∀ x, D x → p x = q x) : TestV w fv D q := by
  obtain ⟨K, cap, h1, h2, h3⟩ := h
  exact ⟨K, cap, h1, h2, fun W hW x hx => by rw [← he x hx]; exact h3 W hW x hx⟩

/-- A function that marks: what it makes of the marks, and that nothing else has turned. -/
def MarkC (K : FuncId) (F : List (List Int) → List Int → Nat → List Bool → List Bool) : Prop :=
  ∀ (ls : List (List Int)) (l : List Int) (t : Nat) (bs : List Bool) (nv ov : Value) (gm cm : Nat) (w0 w : World), GoodG ls l → GraphV w0 (.agg #[nv, ov]) ls l → Below w0.heap.size w0 w →
    w.ownsRow w0.heap.size 4 1 (.slice (some ⟨gm, 0, none⟩) bs.length cm) bs.length (Bo bs) → bs.length = ls.length → t < ls.length →
    Calls Try.prog K #[.agg #[nv, ov], ov, .int .i64 (t : Int), .slice (some ⟨gm, 0, none⟩) bs.length cm] w fun e w' => e = .returned (.tuple #[]) ∧ w'.ownsRow w0.heap.size 4 1 (.slice (some ⟨gm, 0, none⟩) bs.length cm) bs.length (Bo (F ls l t bs)) ∧ w.grownBy w' (some gm)
theorem users_mark : MarkC 118 usersF := by
  intro ls l t bs nv ov gm cm w0 w hG hst hb hown hbl ht
  refine (markUsersG_any ls l l t bs _ ov gm cm w0 w hst hst.parts.2 hb hown hbl hG.high ht (fun x hx => by have := hG.tasks x hx; omega) (good_in hG)).mono ?_
  rintro e w' ⟨he, _, ho, hg⟩
  exact ⟨he, ho, hg⟩

set_option maxRecDepth 20000 in
set_option maxHeartbeats 1000000 in
theorem marked1_any (bs : List Bool) (x : Int) (b : Nat) (u : Value) (w : World) (hrow : RowV w u (Bo bs)) (hb : Blk1 w b 81 u) (h0 : 0 ≤ x) (h1 : x < (bs.length : Int)) :
    Calls Try.prog 139 #[.int .i64 x, .pointer (some ⟨b, 0, none⟩)] w (BoolS (markB bs x) w) := by
  obtain ⟨n, rfl⟩ : ∃ n : Nat, x = n := ⟨x.toNat, by omega⟩
  have hn : n < bs.length := by omega
  have hc := hb.cell
  obtain ⟨a, cap, rfl, hc1, hc2, hat⟩ := hrow.bools
  obtain ⟨g, o, rfl, hg, hcell⟩ := hat n hn
  rw [← markB_get hn] at hcell
  unfold maxLen at hc2
  clear hrow hb hat
  generalize markB bs (n : Int) = y at *
  go_enter Try.func139, Try.ntmps139
  go_wp2_with fail
  go_ret
  exact ⟨rfl, rfl⟩

set_option maxRecDepth 20000 in
set_option maxHeartbeats 8000000 in
theorem markedTest_any (K : FuncId) (F : List (List Int) → List Int → Nat → List Bool → List Bool) (hF : MarkC K F) (hent : ∀ args w, (callFunc K args).run Try.prog w = .ok (.enter K args) w) (hlen : ∀ ls l t bs, (F ls l t bs).length = bs.length)
    (ls : List (List Int)) (l cs : List Int) (v u : Value) (w : World) (hst : GraphV w v ls l) (hrow : RowV w u (I cs)) (hG : GoodG ls l) (hc : ∀ x ∈ cs, 0 ≤ x ∧ x < (ls.length : Int)) :
    Calls Try.prog 123 #[v, u, .func (.func K) #[] #[]] w (TestSPost (· ∈ l) (markB (marksOf F ls l cs)) w) := by
  have HV := Lib.hid hst
  obtain ⟨nv, ov, rfl, h1, h2⟩ := hst
  obtain ⟨an, cn, rfl, hn1, hn2, hat⟩ := h1.lists
  obtain ⟨ao, co, rfl, ho1, ho2, hao⟩ := h2.ints
  clear h1 h2
  unfold maxLen at hn2 ho2
  have HAT := Lib.hid hat
  have HAO := Lib.hid hao
  clear hat hao
  obtain ⟨wa, hwa⟩ : ∃ wa, wa = w.alloc (.cells #[.slice an ls.length cn, .slice ao l.length co] 26) := ⟨_, rfl⟩
  have P0 : Hid (Blk2 wa w.heap.size 26 (.slice an ls.length cn) (.slice ao l.length co)) := by rw [hwa]; exact Blk2.new
  have HA : Hid (Below w.heap.size w wa) := by rw [hwa]; exact (Below.refl w.heap.size w).alloc (Nat.le_refl _) _
  have hsa : wa.heap.size = w.heap.size + 1 := by rw [hwa]; simp
  have HSA := Lib.hid hsa
  have hsz : w.heap.size < wa.heap.size := by omega
  have HWA := Lib.hid hwa
  obtain ⟨c0, c1⟩ := P0.out.cells
  have HU := Lib.hid hrow
  obtain ⟨ua, uc, rfl, hu1, hu2, hau⟩ := hrow.ints
  have HAU := Lib.hid hau
  clear hrow hau
  unfold maxLen at hu2
  have hmf : ∀ (fn : Fn) (first cap : Array Value) (w : World), (Instr.makeFunc fn first cap).run Try.prog w = .ok (.func fn first cap) w := fun _ _ _ _ => rfl
  have h10 := hG.high
  have HGG := Lib.hid hG
  have HC := Lib.hid hc
  have HML := Lib.hid (fun k => marksOf_len hlen ls l (cs.take k))
  have HF := Lib.hid hF
  have HSN := Lib.hid (fun k (hk : k < cs.length) => show marksOf F ls l (cs.take (k + 1)) = F ls l cs[k].toNat (marksOf F ls l (cs.take k)) by rw [List.take_succ_eq_append_getElem hk, marksOf_snoc])
  obtain ⟨csB, hcB, mB⟩ := make_alloc elemB rfl ls.length (by omega)
  have hH := (own_of_heap (w := wa.alloc (.cells csB 4)) (B := wa.heap.size) (heap_alloc_new wa _) (Nat.le_refl _) hcB (by simp) (show ls.length ≤ maxLen by unfold maxLen; omega))
  obtain ⟨w2, hw2⟩ : ∃ w2, w2 = wa.alloc (.cells csB 4) := ⟨_, rfl⟩
  obtain ⟨w3, hw3⟩ : ∃ w3, w3 = w2.alloc (.cells #[.slice (some ⟨w.heap.size + 1, 0, none⟩) ls.length ls.length] 81) := ⟨_, rfl⟩
  have hs2 : w2.heap.size = w.heap.size + 2 := by rw [hw2, World.size_alloc, hsa]
  have hs3 : w3.heap.size = w.heap.size + 3 := by rw [hw3, World.size_alloc, hs2]
  have hb2 : Below wa.heap.size wa w2 := by rw [hw2]; exact (Below.refl _ wa).alloc (Nat.le_refl _) _
  have hb3 : Below w2.heap.size w2 w3 := by rw [hw3]; exact (Below.refl _ w2).alloc (Nat.le_refl _) _
  rw [← hw2, hsa] at hH
  have HO0 : Hid (w3.ownsRow w.heap.size 4 1 (.slice (some ⟨w.heap.size + 1, 0, none⟩) ls.length ls.length) ls.length (Bo (List.replicate ls.length false))) := by
    rw [Bo_rep]
    exact own_base (own_below hH hb3) (by omega)
  have HX0 : Hid (Blk1 w3 (w.heap.size + 2) 81 (.slice (some ⟨w.heap.size + 1, 0, none⟩) ls.length ls.length)) := by rw [hw3, ← hs2]; exact Blk1.new
  have HP0 := Lib.hid ((P0.out.below hb2 hsz).below hb3 (by omega))
  have HB0 := Lib.hid (bth HA.out (bth hb2 hb3 (Nat.le_refl _)) (Nat.le_refl _))
  have HW3 : Hid (w3 = ((w.alloc (.cells #[.slice an ls.length cn, .slice ao l.length co] 26)).alloc (.cells csB 4)).alloc (.cells #[.slice (some ⟨w.heap.size + 1, 0, none⟩) ls.length ls.length] 81)) := by show _ = _; rw [hw3, hw2, hwa]
  rw [hwa] at c0
  clear hwa hsa hw2 hw3 hs2 hs3 hb2 hb3 hH hG hc hF hcB hlen c1 HSA
  go_enter Try.func123, Try.ntmps123
  go_wp2_with fail
  rw [← HW3.out]
  clear c0 mB
  go_loopw [16] (fun i wr => ∃ k : Nat, k ≤ cs.length ∧ i = .int .i64 (k : Int) ∧ Hid (wr.ownsRow w.heap.size 4 1 (.slice (some ⟨w.heap.size + 1, 0, none⟩) ls.length ls.length) ls.length (Bo (marksOf F ls l (cs.take k)))) ∧ Hid (Blk1 wr (w.heap.size + 2) 81 (.slice (some ⟨w.heap.size + 1, 0, none⟩) ls.length ls.length)) ∧ Hid (Blk2 wr w.heap.size 26 (.slice an ls.length cn) (.slice ao l.length co)) ∧ Hid (Below w.heap.size w wr)) (fun i _ => cs.length - (intOf i).toNat)
  case atStart => exact ⟨0, Nat.zero_le _, rfl, HO0, HX0, HP0, HB0⟩
  case round =>
    clear HO0 HX0 HP0 HB0
    obtain ⟨k, hk, rfl, HO, HX, HP, HB⟩ := hrel
    by_cases hlt : k < cs.length
    · obtain ⟨g, o, hgo, hg, hcell0⟩ := HAU.out k hlt
      subst hgo
      have hxr := HC.out cs[k] (List.getElem_mem hlt)
      obtain ⟨t, ht⟩ : ∃ t : Nat, cs[k] = t := ⟨cs[k].toNat, by omega⟩
      have htl : t < ls.length := by omega
      have hcell : wr.cell? ⟨g, o + k, none⟩ = some (.int .i64 (t : Int)) := by rw [HB.out.cell (p := ⟨g, o + k, none⟩) hg, hcell0, ht]
      obtain ⟨d0, d1⟩ := HP.out.cells
      have d2 := HX.out.cell
      have hml := HML.out k
      have HSK : Hid (marksOf F ls l (cs.take (k + 1)) = F ls l t (marksOf F ls l (cs.take k))) := by
        show _ = _
        rw [HSN.out k hlt, ht, show ((t : Int)).toNat = t by omega]
      generalize marksOf F ls l (cs.take k) = bk at *
      have hCC := HF.out ls l t bk (.slice an ls.length cn) (.slice ao l.length co) (w.heap.size + 1) ls.length w wr HGG.out HV.out HB.out (by rw [hml]; exact HO.out) hml htl
      rw [hml] at hCC
      have HCC := Lib.hid hCC
      clear hCC hcell0 hxr ht hml
      go_wp2_with fail
      refine HCC.out.mono ?_
      rintro e w8 ⟨rfl, ho8, hg8⟩
      have HO8 := Lib.hid ho8
      rw [← HSK.out] at HO8
      have HX8 := Lib.hid (HX.out.beside hg8 (by intro e; have := Option.some.inj e; omega))
      have HP8 := Lib.hid (HP.out.beside hg8 (by intro e; have := Option.some.inj e; omega))
      have HB8 := Lib.hid (HB.out.trans (only_below hg8 (by omega) HB.out.size))
      clear ho8 hg8 d0 d1 d2 hcell
      go_wp2_with fail
      go_roundw
      case rel => exact ⟨k + 1, by omega, by go_num, HO8, HX8, HP8, HB8⟩
      case measure => simp [intOf]; omega
    · have hml := HML.out k
      rw [List.take_of_length_le (by omega)] at HO hml
      have HM := Lib.hid hml
      have HGP := Lib.hid HGG.out.toP
      clear hml
      go_wp2_with fail
      go_ret
      refine ⟨_, rfl, ⟨139, #[.pointer (some ⟨w.heap.size + 2, 0, none⟩)], rfl, enters_of Try.func139 (by kernel_rfl) rfl, fun W hW x hx => ?_⟩, HB.out⟩
      have hxr := HGP.out.range x hx
      exact marked1_any (marksOf F ls l cs) x (w.heap.size + 2) _ W (RowV.of_own (own_below HO.out hW)) (HX.out.below hW (lt_of_block HX.out)) hxr.1 (by rw [HM.out]; exact hxr.2)

set_option maxRecDepth 20000 in
set_option maxHeartbeats 1000000 in
theorem touchedTest_any (ls : List (List Int)) (l cs : List Int) (v u : Value) (w : World) (hst : GraphV w v ls l) (hrow : RowV w u (I cs)) (hG : GoodG ls l) (hc : ∀ x ∈ cs, 0 ≤ x ∧ x < (ls.length : Int)) :
    Calls Try.prog 94 #[v, u] w (TestSPost (· ∈ l) (hasL (touchS ls cs)) w) := by
  have HV := Lib.hid hst
  obtain ⟨nv, ov, rfl, h1, h2⟩ := hst
  obtain ⟨an, cn, rfl, hn1, hn2, hat⟩ := h1.lists
  obtain ⟨ao, co, rfl, ho1, ho2, hao⟩ := h2.ints
  clear h1 h2
  unfold maxLen at hn2 ho2
  have HAT := Lib.hid hat
  have HAO := Lib.hid hao
  clear hat hao
  obtain ⟨wa, hwa⟩ : ∃ wa, wa = w.alloc (.cells #[.slice an ls.length cn, .slice ao l.length co] 26) := ⟨_, rfl⟩
  have P0 : Hid (Blk2 wa w.heap.size 26 (.slice an ls.length cn) (.slice ao l.length co)) := by rw [hwa]; exact Blk2.new
  have HA : Hid (Below w.heap.size w wa) := by rw [hwa]; exact (Below.refl w.heap.size w).alloc (Nat.le_refl _) _
  have hsa : wa.heap.size = w.heap.size + 1 := by rw [hwa]; simp
  have HSA := Lib.hid hsa
  have hsz : w.heap.size < wa.heap.size := by omega
  have HWA := Lib.hid hwa
  obtain ⟨c0, c1⟩ := P0.out.cells
  have HM := Lib.hid (markedTest_any 118 usersF users_mark (enters_of Try.func118 (by kernel_rfl) rfl) usersF_len ls l cs _ u wa (HV.out.below HA.out) (hrow.below HA.out) hG hc)
  have HTD := Lib.hid (users_told hG.toP hc)
  obtain ⟨ua, uc, rfl, hu1, hu2, _⟩ := hrow.ints
  clear hwa hsa hrow hG hc
  go_enter Try.func94, Try.ntmps94
  go_wp2_with fail
  rw [← HWA.out]
  refine HM.out.mono ?_
  rintro e w1 ⟨fv, rfl, ht, hb1⟩
  have HT := Lib.hid (ht.congr HTD.out)
  have HB1 := Lib.hid (bth HA.out hb1 (Nat.le_refl _))
  clear ht hb1 c0 c1
  go_wp2_with fail
  go_ret
  exact ⟨_, rfl, HT.out, HB1.out⟩

set_option maxRecDepth 20000 in
set_option maxHeartbeats 8000000 in
theorem implTouched_any (ls : List (List Int)) (l cs : List Int) (v ucs : Value) (w : World) (hst : GraphV w v ls l) (hcs : RowV w ucs (I cs)) :
    Calls Try.prog 39 #[v, ucs] w (ListOk (touchA ls l cs) (someG ls l cs) w) := by
  have HV := Lib.hid hst
  obtain ⟨nv, ov, rfl, h1, h2⟩ := hst
  obtain ⟨an, cn, rfl, hn1, hn2, hat⟩ := h1.lists
  obtain ⟨ao, co, rfl, ho1, ho2, hao⟩ := h2.ints
  clear h1 h2
  unfold maxLen at hn2 ho2
  have HAT := Lib.hid hat
  have HAO := Lib.hid hao
  clear hat hao
  obtain ⟨wa, hwa⟩ : ∃ wa, wa = w.alloc (.cells #[.slice an ls.length cn, .slice ao l.length co] 26) := ⟨_, rfl⟩
  have P0 : Hid (Blk2 wa w.heap.size 26 (.slice an ls.length cn) (.slice ao l.length co)) := by rw [hwa]; exact Blk2.new
  have HA : Hid (Below w.heap.size w wa) := by rw [hwa]; exact (Below.refl w.heap.size w).alloc (Nat.le_refl _) _
  have hsa : wa.heap.size = w.heap.size + 1 := by rw [hwa]; simp
  have HSA := Lib.hid hsa
  have hsz : w.heap.size < wa.heap.size := by omega
  have HWA := Lib.hid hwa
  obtain ⟨c0, c1⟩ := P0.out.cells
  have HUcs := Lib.hid hcs
  obtain ⟨xacs, xccs, rfl, hxlcs, hxmcs, _⟩ := hcs.ints
  clear hcs
  unfold maxLen at hxmcs
  have HGD := Lib.hid (fun W (h : Below wa.heap.size wa W) => implGood_any ls l _ W (HV.out.below (bth HA.out h (Nat.le_refl _))))
  have HTcs := Lib.hid (fun W (h : Below wa.heap.size wa W) => areTasks_any ls l cs _ _ W (HV.out.below (bth HA.out h (Nat.le_refl _))) (HUcs.out.below (bth HA.out h (Nat.le_refl _))))
  have HEQ : Hid ((goodG ls l && riseB 0 ((ls.length : Int) - 1) cs) = someG ls l cs) := some_eq _ _ _
  have HNo : Hid ((goodG ls l && riseB 0 ((ls.length : Int) - 1) cs) = false → touchA ls l cs = [] ∧ someG ls l cs = false) := fun h => by
    rw [HEQ.out] at h
    exact ⟨touchA_no h, h⟩
  have HYes : Hid ((goodG ls l && riseB 0 ((ls.length : Int) - 1) cs) = true → touchA ls l cs = touchA_v ls l cs ∧ someG ls l cs = true ∧ GoodG ls l ∧ (Rise cs ∧ ∀ x ∈ cs, 0 ≤ x ∧ x < (ls.length : Int))) := fun h => by
    rw [HEQ.out] at h
    exact ⟨touchA_yes h, h, some_yes h⟩
  clear HEQ
  generalize someG ls l cs = bb at *
  generalize touchA ls l cs = R at *
  generalize goodG ls l = b0 at *
  generalize riseB 0 ((ls.length : Int) - 1) cs = bcs at *
  clear hwa
  go_enter Try.func39, Try.ntmps39
  go_wp2_with fail
  rw [← HWA.out]
  refine (HGD.out wa (Below.refl _ _)).mono ?_
  rintro e w1 ⟨rfl, hb1⟩
  have K1 := Lib.hid hb1
  obtain ⟨p1, q1⟩ := (P0.out.below K1.out hsz).cells
  clear hb1 c0 c1
  cases b0 with
  | false =>
    have hR := HNo.out rfl
    obtain ⟨rfl, rfl⟩ := hR
    clear HNo HYes HGD HTcs
    go_wp2_with fail
    go_ret2
    exact ⟨_, rfl, none_ownZ _ _ _, bth HA.out K1.out (Nat.le_refl _)⟩
  | true =>
    go_wp2_with fail
    refine (HTcs.out w1 K1.out).mono ?_
    rintro e w2 ⟨rfl, hb2⟩
    have K2 := Lib.hid (bth K1.out hb2 (Nat.le_refl _))
    obtain ⟨p2, q2⟩ := (P0.out.below K2.out hsz).cells
    clear hb2 p1 q1
    cases bcs with
    | false =>
      have hR := HNo.out rfl
      obtain ⟨rfl, rfl⟩ := hR
      clear HNo HYes HGD HTcs
      go_wp2_with fail
      go_ret2
      exact ⟨_, rfl, none_ownZ _ _ _, bth HA.out K2.out (Nat.le_refl _)⟩
    | true =>
      obtain ⟨hR, rfl, hG, hccs⟩ := HYes.out rfl
      clear HNo HYes HGD HTcs
      have HKW := Lib.hid (bth HA.out K2.out (Nat.le_refl _))
      have PW := Lib.hid (P0.out.below K2.out hsz)
      have hszW := Nat.lt_of_lt_of_le hsz K2.out.size
      have HR : Hid (R = touchS ls cs) := hR
      have HGP := Lib.hid hG.toP
      have HPI : Hid ((upto ls.length).filter (hasL (touchS ls cs)) = touchS ls cs) := by
        show _ = _
        refine rise_ext (filter_rise (upto_rise _)) (touchS_rise _ _) (fun x => ?_)
        rw [List.mem_filter, mem_upto, hasL, decide_eq_true_iff]
        exact ⟨fun h => h.2, fun h => ⟨(mem_touchS.1 h).1, h⟩⟩
      have HTS := Lib.hid (fun W (h : Below w.heap.size w W) => touchedTest_any ls l cs _ _ W (HV.out.below h) (HUcs.out.below h) hG hccs.2)
      have PD : Hid (Blk2 w2.drew w.heap.size 26 (.slice an ls.length cn) (.slice ao l.length co)) := PW.out
      have ks := PD.out.cells
      have hszD : w.heap.size < w2.drew.heap.size := hszW
      have HKD : Hid (Below w.heap.size w w2.drew) := Below.drew HKW.out
      clear hR hG hccs p2 q2
      go_wp2_with fail
      go_region_held3 (fun w' => w'.cell? ⟨w.heap.size, 0, none⟩ = some (.slice an ls.length cn) ∧ w'.cell? ⟨w.heap.size, 1, none⟩ = some (.slice ao l.length co)) (first | exact ks)
        (first
          | (go_at_call 94; refine (HTS.out _ (by exact HKD.out)).mono ?_; rintro e w7 ⟨fv, rfl, ht7, hb7⟩
             have ks := (PD.out.below hb7 hszD).cells
             have HT7 := Lib.hid ht7.toV
             have K7 := Lib.hid (bth HKD.out hb7 (Nat.le_refl _))
             have C7 := Lib.hid hb7
             clear ht7 hb7)
          | (go_at_call 93; refine (rising_any ls l (hasL (touchS ls cs)) _ _ _ (HV.out.below K7.out) HT7.out HGP.out).mono ?_; rintro e w8 ⟨v8, rfl, ho8, hb8⟩
             have HO8 := Lib.hid ho8
             have K8 := Lib.hid (bth K7.out hb8 (Nat.le_refl _))
             have ks := (PD.out.below (bth C7.out hb8 (Nat.le_refl _)) hszD).cells
             clear ho8 hb8))
      all_goals
        rw [HPI.out, ← HR.out] at HO8
        go_wp2_with fail
        go_ret2
        exact ⟨_, rfl, own_base HO8.out K7.out.size, K8.out⟩
end Go.Proofs.Ytpjmdljjmknpkaa

/- Walks: slices.Backward and markNeeds, a range over a function, inside the wide fence. -/
namespace Go.Proofs.Ytpjmdljjmknpkaa
open Go.RowKit Go.Shelf Pth

attribute [local go_sem] Oper.semAt_some

/-- A place and what stands there, of a list. -/
abbrev InL (zs : List Int) : Type := { p : Nat × Int // p.2 ∈ zs }
def inAt (zs : List Int) (hne : 0 < zs.length) (i : Nat) : InL zs := if h : i < zs.length then ⟨(i, zs[i]), List.getElem_mem h⟩ else ⟨(0, zs[0]), List.getElem_mem hne⟩
theorem inAt_is {zs : List Int} {hne : 0 < zs.length} {i : Nat} (h : i < zs.length) : (inAt zs hne i).1.1 = i ∧ (inAt zs hne i).1.2 = zs[i] := by
  unfold inAt; rw [dif_pos h]; exact ⟨rfl, rfl⟩
/-- What comes from the back on, down to a place. -/
def downL (zs : List Int) (hne : 0 < zs.length) (j : Nat) : List (InL zs) := ((List.range zs.length).drop j).reverse.map (inAt zs hne)
theorem downL_end (zs : List Int) (hne : 0 < zs.length) : downL zs hne zs.length = [] := by unfold downL; rw [List.drop_of_length_le (by simp)]; rfl
theorem downL_next (zs : List Int) (hne : 0 < zs.length) {m : Nat} (hm : m < zs.length) : downL zs hne m = downL zs hne (m + 1) ++ [inAt zs hne m] := by
  unfold downL
  rw [List.drop_eq_getElem_cons (by simpa using hm), List.reverse_cons, List.map_append]
  simp
theorem downL_len (zs : List Int) (hne : 0 < zs.length) (j : Nat) : (downL zs hne j).length = zs.length - j := by unfold downL; simp
/-- Nothing but one block of those that lay has turned. -/
def KeepN (N g : Nat) (A B : World) : Prop := ∀ i, i < N → i ≠ g → B.heap[i]? = A.heap[i]?
theorem KeepN.refl (N g : Nat) (A : World) : KeepN N g A A := fun _ _ _ => rfl
theorem KeepN.trans {N g : Nat} {A B C : World} (h : KeepN N g A B) (k : KeepN N g B C) : KeepN N g A C := fun i hi hn => (k i hi hn).trans (h i hi hn)
theorem cell_heap {A B : World} {i o : Nat} (h : B.heap[i]? = A.heap[i]?) : B.cell? ⟨i, o, none⟩ = A.cell? ⟨i, o, none⟩ := by
  unfold World.cell?
  simp only [h]
theorem KeepN.cell {N g i o : Nat} {A B : World} (h : KeepN N g A B) (hi : i < N) (hn : i ≠ g) : B.cell? ⟨i, o, none⟩ = A.cell? ⟨i, o, none⟩ := cell_heap (h i hi hn)
theorem keepN_b {N g : Nat} {w : World} (hn : N ≤ w.heap.size) (W : World) (l : Nat) (o o' : Obj) (hl : w.heap.size ≤ l) (_ : W.heap[l]? = some o) (_ : o.isCells = false) (_ : o.isWalk = false) : KeepN N g W (W.putObj l o') := fun i hi _ => World.putObj_heap_other (fun e => by omega)

set_option maxRecDepth 100000 in
set_option maxHeartbeats 4000000 in
theorem back1_in (n : Nat) (hn : 1 ≤ n) (l Bs N gm b off cap : Nat) (zs : List Int) (hlen : zs.length ≤ 1000) (hne : 0 < zs.length) (hb : b < N) (hbg : b ≠ gm) (hB : Bs < N) (hBg : Bs ≠ gm) (J Jx : List (InL zs) → World → Prop)
    (hY : ∀ pre x W, J pre W → pre.length < zs.length → YieldAt Fence.wide (n - 1) Try.prog l #[.int .i64 (x.1.1 : Int), .int .i64 x.1.2] W fun e W' =>
      (e = .returned (.bool true) ∧ J (pre ++ [x]) W' ∧ KeepN N gm W W') ∨ (e = .returned (.bool false) ∧ Jx (pre ++ [x]) W'))
    (W : World) (hBs : W.cell? ⟨Bs, 0, none⟩ = some (.slice (some ⟨b, off, none⟩) zs.length cap)) (hcap : zs.length ≤ cap) (hc : ∀ j (hj : j < zs.length), W.cell? ⟨b, off + j, none⟩ = some (.int .i64 zs[j])) (h0 : J [] W) :
    CallsIn Fence.wide n Try.prog 140 #[.func (.yield l) #[] #[], .pointer (some ⟨Bs, 0, none⟩)] W fun e W' => (∃ v, e = .returned v) ∧
      ((∃ ys, ys = downL zs hne 0 ∧ J ys W') ∨ (∃ pre, True ∧ Jx pre W')) := by
  refine callsIn_of_wp Try.func140 rfl trivial ?_ rfl
  simp only [Try.ntmps140, List.size_toArray, List.length_cons, List.length_nil, Nat.reduceAdd, Nat.reduceSub, Array.replicate_succ, Array.replicate_zero, List.push_toArray, List.append_toArray, List.nil_append, List.cons_append]
  gi_wp2
  gi_loopw [3] (fun i wr => ∃ j : Nat, j ≤ zs.length ∧ i = .int .i64 ((j : Int) - 1) ∧ J (downL zs hne j) wr ∧ KeepN N gm W wr)
    (fun i _ => (intOf i + 1).toNat)
  case atStart => exact ⟨zs.length, Nat.le_refl _, by go_num, by rw [downL_end]; exact h0, KeepN.refl _ _ _⟩
  case round =>
    obtain ⟨j, hj, rfl, hJs, hk⟩ := hrel
    have hBs1 := (hk.cell (o := 0) hB hBg).trans hBs
    by_cases hz : 0 < j
    · obtain ⟨m, rfl⟩ : ∃ m, j = m + 1 := ⟨j - 1, by omega⟩
      have hmm : (((m + 1 : Nat) : Int) - 1) = (m : Int) := by omega
      rw [hmm]
      have hml : m < zs.length := by omega
      have hml2 : (m : Int) < (zs.length : Int) := by omega
      have hcm := (hk.cell (o := off + m) hb hbg).trans (hc m hml)
      obtain ⟨x, hxf, hx1, hx2⟩ : ∃ x, x = inAt zs hne m ∧ x.1.1 = m ∧ x.1.2 = zs[m] := ⟨_, rfl, inAt_is hml⟩
      have HXF := Lib.hid hxf
      obtain ⟨fn, tmps, assign, body, hy, hR⟩ := hY _ x wr hJs (by rw [downL_len]; omega)
      rw [hx1, hx2] at hy
      clear hc hxf hx1 hx2
      generalize zs[m] = xv at *
      gi_wp2
      refine hR.mono ?_
      rintro e W3 (⟨rfl, hJ3, hk3⟩ | ⟨rfl, hJx3⟩)
      · gi_wp2
        go_roundw
        case rel => exact ⟨m, by omega, by go_num, by rw [downL_next zs hne hml, ← HXF.out]; exact hJ3, hk.trans hk3⟩
        case measure => simp [intOf]
      · gi_wp2
        refine bodyPost_ret (results_none rfl _ _ _) rfl ?_
        exact ⟨⟨_, rfl⟩, .inr ⟨_, trivial, hJx3⟩⟩
    · obtain rfl : j = 0 := by omega
      have hz0 : (((0 : Nat) : Int) - 1) = -1 := by omega
      rw [hz0]
      gi_wp2
      go_end0
      exact ⟨⟨_, rfl⟩, .inl ⟨_, rfl, hJs⟩⟩

set_option maxRecDepth 100000 in
set_option maxHeartbeats 1000000 in
theorem back_in (n : Nat) (a : Option Addr) (len cap : Nat) (w : World) :
    CallsIn Fence.wide n Try.prog 127 #[.slice a len cap] w fun e w' => e = .returned (.func (.func 140) #[] #[.pointer (some ⟨w.heap.size, 0, none⟩)]) ∧ w' = w.alloc (.cells #[.slice a len cap] 24) := by
  refine callsIn_of_wp Try.func127 rfl trivial ?_ rfl
  simp only [Try.ntmps127, List.size_toArray, List.length_cons, List.length_nil, Nat.reduceAdd, Nat.reduceSub, Array.replicate_succ, Array.replicate_zero, List.push_toArray, List.append_toArray, List.nil_append, List.cons_append]
  gi_wp2
  go_ret
  exact ⟨rfl, rfl⟩

theorem back_stops (n : Nat) (hn : 1 ≤ n) (Bs N gm b off cap : Nat) (zs : List Int) (hlen : zs.length ≤ 1000) (hne : 0 < zs.length) (hb : b < N) (hbg : b ≠ gm) (hB : Bs < N) (hBg : Bs ≠ gm) (w : World) (hN : N ≤ w.heap.size)
    (hBs : w.cell? ⟨Bs, 0, none⟩ = some (.slice (some ⟨b, off, none⟩) zs.length cap)) (hcap : zs.length ≤ cap) (hc : ∀ j (hj : j < zs.length), w.cell? ⟨b, off + j, none⟩ = some (.int .i64 zs[j])) :
    SeqStopsK Fence.wide n Try.prog 140 #[.pointer (some ⟨Bs, 0, none⟩)] (fun x : InL zs => #[Value.int .i64 (x.1.1 : Int), Value.int .i64 x.1.2]) (KeepN N gm) (fun ys => ys = downL zs hne 0) (fun _ => True) zs.length w := fun l J Jx W hW _ _ hY h0 => by
  exact back1_in n hn l Bs N gm b off cap zs hlen hne hb hbg hB hBg J Jx hY W ((hW.cell (p := ⟨Bs, 0, none⟩) (by show Bs < w.heap.size; omega)).trans hBs) hcap (fun j hj => (hW.cell (p := ⟨b, off + j, none⟩) (by show b < w.heap.size; omega)).trans (hc j hj)) h0
end Go.Proofs.Ytpjmdljjmknpkaa
