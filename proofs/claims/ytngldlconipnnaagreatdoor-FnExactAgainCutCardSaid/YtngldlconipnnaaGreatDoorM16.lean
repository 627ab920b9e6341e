/- Texts of one claim, joined in their order. -/
import Derived.Test.YtngldlconipnnaaGreatDoorM11
import Derived.Test.YtngldlconipnnaaGreatDoorM12
import Derived.Test.YtngldlconipnnaaGreatDoorM15

/- Walks: what is made anew where something needed came out unlike, of the reference. -/
namespace Go.Proofs.YtngldlconipnnaaGreatDoor
open Go.RowKit Pth

/-- Whether a task came out unlike what it was. -/
def unlikeP (m0 m : List ResT) (x : Int) : Bool := decide (m.getD x.toNat noRes ≠ m0.getD x.toNat noRes)
/-- Those that are sources, or need something that came out unlike. -/
def cutDue (ls : List (List Int)) (bs : List Bool) (m0 m : List ResT) (k : Nat) : Bool := bs.getD k false || (ls.getD k []).any (unlikeP m0 m)
noncomputable def cutP (ls : List (List Int)) (l : List Int) (bs : List Bool) (rs : List (List OpT)) (m : List ResT) (ts : List (List UInt8)) : List ResT × List Int := passM (oneM ls bs rs ts) (cutDue ls bs m) l (m, [])
noncomputable def cutR (ls : List (List Int)) (l : List Int) (bs : List Bool) (rs : List (List OpT)) (m : List ResT) (ts : List (List UInt8)) : List ResT := if goodA8 ls l bs rs m ts then (cutP ls l bs rs m ts).1 else []
noncomputable def cutN (ls : List (List Int)) (l : List Int) (bs : List Bool) (rs : List (List OpT)) (m : List ResT) (ts : List (List UInt8)) : Int := if goodA8 ls l bs rs m ts then (runsL bs (cutP ls l bs rs m ts).2 : Int) else 0
theorem cut_short (ls : List (List Int)) (l : List Int) (bs : List Bool) (rs : List (List OpT)) (m : List ResT) (ts : List (List UInt8)) : (cutR ls l bs rs m ts).length ≤ 1000000 := by
  unfold cutR
  split
  · rename_i h; exact pass_short _ _ h
  · simp
theorem any_next {f : Int → Bool} {ns : List Int} {j : Nat} (hj : j < ns.length) : (ns.take (j + 1)).any f = ((ns.take j).any f || f ns[j]) := by
  rw [List.take_succ_eq_append_getElem hj, List.any_append]; simp

set_option maxRecDepth 20000 in
set_option maxHeartbeats 8000000 in
theorem specAgainCut_any (ls : List (List Int)) (l : List Int) (bs : List Bool) (rs : List (List OpT)) (m : List ResT) (ts : List (List UInt8)) (v u x : Value) (w : World) (hp : PlanV w v ls l bs rs) (hr : RowR w u m) (hts : RowV w x (S ts)) (hx : ∀ l ∈ rs, ∀ f ∈ l, f.2.2.length ≤ maxLen) (hxm0 : ∀ f ∈ m, f.1.length ≤ maxLen) (hxt0 : ∀ x ∈ ts, x.length ≤ maxLen) :
    Calls Tryz.prog 38 #[v, u, x] w (ResNOk (cutR ls l bs rs m ts) (cutN ls l bs rs m ts) (goodA8 ls l bs rs m ts) w) := by
  have HV := Lib.hid hp
  obtain ⟨nv, ov, sv, rv, rfl, h1, h2, h3, h4⟩ := hp
  obtain ⟨as0, cs, rfl, hs1, hs2, hats⟩ := h3.boolsW
  obtain ⟨an, cn, rfl, hn1, hn2, hatn⟩ := h1.lists
  obtain ⟨ao, co, rfl, ho1, ho2, hato⟩ := h2.ints
  obtain ⟨ar, cr, rfl, hr1, hr2, _⟩ := h4.lists
  clear h1 h2 h3 h4
  have HR := Lib.hid hr
  obtain ⟨am, cm, rfl, hm1, hm2, hatm⟩ := hr.res
  clear hr
  have HT := Lib.hid hts
  obtain ⟨at0, ct, rfl, ht1, ht2, _⟩ := hts.texts
  clear hts
  unfold maxLen at hs2 hn2 ho2 hr2 hm2 ht2
  obtain ⟨wa, hwa⟩ : ∃ wa, wa = w.alloc (.cells #[.slice an ls.length cn, .slice ao l.length co, .slice as0 bs.length cs, .slice ar rs.length cr] 30) := ⟨_, rfl⟩
  have hsz : w.heap.size < wa.heap.size := by rw [hwa]; simp
  have P0 : Hid (Blk4 wa w.heap.size 30 (.slice an ls.length cn) (.slice ao l.length co) (.slice as0 bs.length cs) (.slice ar rs.length cr)) := by rw [hwa]; exact Blk4.new
  have HA : Hid (Below w.heap.size w wa) := by rw [hwa]; exact (Below.refl w.heap.size w).alloc (Nat.le_refl _) _
  have HWA : Hid (w.alloc (.cells #[.slice an ls.length cn, .slice ao l.length co, .slice as0 bs.length cs, .slice ar rs.length cr] 30) = wa) := by rw [hwa]; rfl
  clear hwa
  have HPV : Hid (∀ W, Below w.heap.size w W → PlanV W (.agg #[.slice an ls.length cn, .slice ao l.length co, .slice as0 bs.length cs, .slice ar rs.length cr]) ls l bs rs) := fun W h => HV.out.below h
  have HRV : Hid (∀ W, Below w.heap.size w W → RowR W (.slice am m.length cm) m) := fun W h => HR.out.below h
  have HTV : Hid (∀ W, Below w.heap.size w W → RowV W (.slice at0 ts.length ct) (S ts)) := fun W h => HT.out.below h
  have HGV : Hid (∀ W, Below w.heap.size w W → GraphV W (.agg #[.slice an ls.length cn, .slice ao l.length co]) ls l) := fun W h => by
    obtain ⟨_, _, _, _, he, k1, k2, _, _⟩ := HPV.out W h
    injection he with he
    simp only [Array.mk.injEq, List.cons.injEq, and_true] at he
    obtain ⟨rfl, rfl, _, _⟩ := he
    exact ⟨_, _, rfl, k1, k2⟩
  obtain ⟨b, hb⟩ : ∃ b, goodA8 ls l bs rs m ts = b := ⟨_, rfl⟩
  have HC := Lib.hid (specGood8_b hb _ _ _ wa (HPV.out wa HA.out) (HRV.out wa HA.out) (HTV.out wa HA.out) hx hxm0 hxt0)
  rcases b with _ | _
  · have HE1 : Hid (cutR ls l bs rs m ts = []) := by show _ = _; unfold cutR; rw [hb]; rfl
    have HE2 : Hid (cutN ls l bs rs m ts = 0) := by show _ = _; unfold cutN; rw [hb]; rfl
    rw [HE1.out, HE2.out, hb]
    obtain ⟨c0, c1, c2, c3⟩ := P0.out.cells
    clear hb hx hxm0 hxt0 HE1 HE2 hats hato hatn hatm
    go_enter Tryz.func38, Tryz.ntmps38
    go_wp2_with fail
    rw [HWA.out]
    refine HC.out.mono ?_
    rintro e w1 ⟨rfl, hb1⟩
    have HW1 := Lib.hid (bth HA.out hb1 (Nat.le_refl _))
    clear hb1 c0 c1 c2 c3 HC
    go_wp2_with fail
    go_ret3
    exact ⟨_, rfl, none_ownR _ _, HW1.out⟩
  have hg := hb
  have hE1 : cutR ls l bs rs m ts = (cutP ls l bs rs m ts).1 := by unfold cutR; rw [hb]; rfl
  have hE2 : cutN ls l bs rs m ts = (runsL bs (cutP ls l bs rs m ts).2 : Int) := by unfold cutN; rw [hb]; rfl
  rw [hE1, hE2, hb]
  obtain ⟨hpl, hmb, htb, hsm, hst, _, _⟩ := good8_parts hg
  have hG := (plan_parts hpl).1
  have hbl := (plan_parts hpl).2.1
  have hlo := hG.same
  have hhi := hG.high
  have hlw := hG.low
  have hl10 : l.length ≤ 10 := by omega
  have hmpos : 0 < m.length := by omega
  have hm10 : m.length ≤ 10 := by omega
  have hmbs : m.length = bs.length := hmb
  have HON : Hid (∀ W z M (y : Nat), Below w.heap.size w W → RowR W z M → M.length = bs.length → Sml M → y < ls.length → Calls Tryz.prog 79 #[.agg #[.slice an ls.length cn, .slice ao l.length co, .slice as0 bs.length cs, .slice ar rs.length cr], z, .slice at0 ts.length ct, .int .i64 (y : Int)] W fun e w' => e = .returned (resV (oneM ls bs rs ts M y)) ∧ Below W.heap.size W w') := fun W z M y h1 h2 h3 h4 h5 => specOne_any ls l bs rs M ts y _ _ _ W (HPV.out W h1) h2 (HTV.out W h1) hpl h3 htb h5 h4 hst
  have HIN : Hid (∀ k (hk : k < l.length), 0 ≤ l[k] ∧ l[k] < (ls.length : Int)) := fun k hk => by have := hG.tasks _ (List.getElem_mem hk); omega
  obtain ⟨MK, hMK⟩ : ∃ MK : Nat → List ResT × List Int, MK = fun k => passM (oneM ls bs rs ts) (cutDue ls bs m) (l.take k) (m, []) := ⟨_, rfl⟩
  have HML : Hid (∀ k, (MK k).1.length = bs.length) := fun k => by rw [hMK]; simp only; rw [pass_len]; exact hmb
  have HMS : Hid (∀ k, Sml (MK k).1) := fun k => by rw [hMK]; exact pass_sml _ _ (fun _ _ => oneM_len hst) _ _ hsm
  have HMM : Hid (∀ k, (MK k).2.length ≤ k) := fun k => by rw [hMK]; exact Nat.le_trans (pass_made _ _ _ _) (by rw [List.length_take]; simp; omega)
  have HMN : Hid (∀ k (hk : k < l.length), MK (k + 1) = if (cutDue ls bs m) (MK k).1 l[k].toNat then ((MK k).1.set l[k].toNat (oneM ls bs rs ts (MK k).1 l[k].toNat), (MK k).2 ++ [l[k]]) else MK k) := fun k hk => by rw [hMK]; exact pass_next _ _ hk _
  have HM0 : Hid (MK 0 = (m, [])) := by rw [hMK]; rfl
  have HMZ : Hid (MK l.length = passM (oneM ls bs rs ts) (cutDue ls bs m) l (m, [])) := by rw [hMK]; show _ = _; simp only [List.take_length]
  have hPE : cutP ls l bs rs m ts = MK l.length := HMZ.out.symm
  rw [hPE]
  obtain ⟨one, hone⟩ : ∃ one, oneM ls bs rs ts = one := ⟨_, rfl⟩
  rw [hone] at HON HMN
  have HDUE : Hid (∀ M k, (hk : k < ls.length) → (hb : k < bs.length) → cutDue ls bs m M k = (bs[k] || (ls[k]).any (unlikeP m M))) := fun M k hk hb => by unfold cutDue; rw [getD_at _ hk, getD_at _ hb]
  have HNE : Hid (∀ k (hk : k < ls.length), ls[k].length ≤ 10 ∧ ∀ x ∈ ls[k], 0 ≤ x ∧ x < (ls.length : Int)) := fun k hk => plan_task hpl hk
  have HATO := Lib.hid hato
  have HATS := Lib.hid hats
  have HATN := Lib.hid hatn
  have HATM := Lib.hid hatm
  have HBL := Lib.hid hbl
  have HMB := Lib.hid hmbs
  obtain ⟨c0, c1, c2, c3⟩ := P0.out.cells
  clear hb hx hxm0 hxt0 hg hE1 hE2 hpl hmb htb hsm hst hG hbl hlo hhi hlw hMK hPE hone hmbs hats hato hatn hatm HMZ
  go_enter Tryz.func38, Tryz.ntmps38
  go_wp2_with fail
  rw [HWA.out]
  refine HC.out.mono ?_
  rintro e w2 ⟨rfl, hb2⟩
  have HB2 := Lib.hid hb2
  have HW2 := Lib.hid (bth HA.out hb2 (Nat.le_refl _))
  clear hb2 c0 c1 c2 c3 HC
  obtain ⟨gq, qc, w3, run3, ho3, hb3⟩ := lit_rowR m am cm w2 _ rfl (HRV.out w2 HW2.out) (by omega) hmpos 35
  have HRUN := Lib.hid run3
  have s2 : wa.heap.size ≤ w2.heap.size := HB2.out.size
  have HN3 := Lib.hid (own_baseG (B' := wa.heap.size) ho3 s2)
  have HB3 := Lib.hid (bth HB2.out hb3 (Nat.le_refl _))
  have HW3 := Lib.hid (bth HW2.out hb3 (Nat.le_refl _))
  have hgq : wa.heap.size ≤ gq := Nat.le_trans s2 (ho3.lt gq rfl).1
  clear run3 ho3 hb3
  obtain ⟨c0, c1, c2, c3⟩ := (P0.out.below HB3.out hsz).cells
  go_upto_region 3 with fail
  go_wp2_with (at_builtin; refine wpList_runApp rfl _ _ rfl rfl rfl HRUN.out ?_)
  clear c0 c1 c2 c3 HRUN
  go_loopw [10, 28] (fun q i wr => ∃ k : Nat, k ≤ l.length ∧ i = .int .i64 k ∧ q = .int .i64 (runsL bs (MK k).2 : Int) ∧ Hid (Below wa.heap.size wa wr) ∧ Hid (wr.ownsRow wa.heap.size 89 2 (.slice (some ⟨gq, 0, none⟩) m.length qc) m.length (RC (MK k).1))) (fun _ i _ => l.length - (intOf i).toNat)
  case atStart => exact ⟨0, Nat.zero_le _, rfl, by rw [HM0.out]; rfl, HB3, by rw [HM0.out]; exact HN3⟩
  case round =>
    clear HN3
    obtain ⟨k, hk, rfl, rfl, HB, HN⟩ := hrel
    have HBW := Lib.hid (bth HA.out HB.out (Nat.le_refl _))
    by_cases hlt : k < l.length
    · obtain ⟨go, oo, rfl, hgo, hcell0⟩ := HATO.out k hlt
      have hcell := (HBW.out.cell (p := ⟨go, oo + k, none⟩) hgo).trans hcell0
      obtain ⟨hx0, hx1⟩ := HIN.out k hlt
      have hnext := HMN.out k hlt
      obtain ⟨y, hy⟩ : ∃ y : Nat, l[k] = y := ⟨(l[k]).toNat, by omega⟩
      have hyl : y < ls.length := by omega
      have hyb : y < bs.length := by have := HBL.out; omega
      have hmk := HML.out k
      have hms := HMS.out k
      have hmm := HMM.out k
      have hym : y < (MK k).1.length := by omega
      rw [hy, Int.toNat_natCast, HDUE.out _ y hyl hyb] at hnext
      rw [hy] at hcell
      have hmn : (MK k).1.length = m.length := by have := HMB.out; omega
      have HOK := Lib.hid (fun W (h : Below wr.heap.size wr W) => HON.out W _ (MK k).1 y (bth HBW.out h (Nat.le_refl _)) (RowR.of_ownL (own_belowG HN.out h) hmn) hmk hms hyl)
      obtain ⟨gs, os, rfl, hgs, hcs2⟩ := HATS.out y hyb
      have HSC : Hid (∀ W, Below wr.heap.size wr W → W.cell? ⟨gs, os + y, none⟩ = some (.bool bs[y])) := fun W h => ((bth HBW.out h (Nat.le_refl _)).cell (p := ⟨gs, os + y, none⟩) hgs).trans hcs2
      have hsc := HSC.out wr (Below.refl _ _)
      have hsrc := getD_at false hyb
      have hrun := runs_app bs (MK k).2 (y : Int)
      rw [Int.toNat_natCast, hsrc] at hrun
      have hle : runsL bs (MK k).2 ≤ 10 := Nat.le_trans (runs_le _ _) (by omega)
      obtain ⟨gn, on, an2, cn2, rfl, hgn, hcn, hrn⟩ := HATN.out y hyl
      obtain ⟨_, _, hev, hcl, hcm, hatk⟩ := hrn.ints
      injection hev with hea _ hec
      subst hea hec
      unfold maxLen at hcm
      have HATK := Lib.hid hatk
      have hnc := (HBW.out.cell (p := ⟨gn, on + y, none⟩) hgn).trans hcn
      obtain ⟨hny10, hnin⟩ := HNE.out y hyl
      have HNIN : Hid (∀ x ∈ ls[y], 0 ≤ x ∧ x < (m.length : Int)) := fun x h => by have := hnin x h; have := HMB.out; have := HBL.out; omega
      have HNX := Lib.hid hnext
      have HRA := Lib.hid hrun
      have hyz : (y : Int) < (m.length : Int) := by omega
      have hyz2 : (y : Int) < (bs.length : Int) := by omega
      have hyz3 : (y : Int) < (ls.length : Int) := by omega
      clear hcell0 hx0 hx1 hy HATO HATS HATN HIN HMN hnext HON hcs2 hsrc hrun hcn hrn hatk hnin HDUE HNE
      generalize MK k = P at *
      obtain ⟨M, D⟩ := P
      simp only at *
      obtain ⟨ns, hns⟩ : ∃ ns, ls[y] = ns := ⟨_, rfl⟩
      rw [hns] at HNX hnc HATK hny10 HNIN hcl
      have HNS := Lib.hid hns
      obtain ⟨R, hR⟩ : ∃ R, one M y = R := ⟨_, rfl⟩
      rw [hR] at HNX HOK
      obtain ⟨r1, r2⟩ := R
      generalize hr0 : runsL bs D = r at *
      have HRR := Lib.hid hr0
      clear hr0 hR hns
      generalize bs[y] = sb at *
      unfold resV at HOK
      simp only at HOK
      obtain ⟨c0, c1, c2, c3⟩ := (P0.out.below HB.out hsz).cells
      go_wp2_with fail
      clear c0 c1 c2 c3 hcell hsc hnc
      go_loopw [13, 44] (fun q i wi => ∃ j : Nat, j ≤ ns.length ∧ i = .int .i64 j ∧ q = .bool (sb || (ns.take j).any (unlikeP m M)) ∧ Hid (Below wr.heap.size wr wi)) (fun _ i _ => ns.length - (intOf i).toNat)
      case atStart => exact ⟨0, Nat.zero_le _, rfl, by simp, Below.refl _ _⟩
      case round =>
        obtain ⟨j, hj, rfl, rfl, HBI⟩ := hrel
        have HBJ := Lib.hid (bth HBW.out HBI.out (Nat.le_refl _))
        have HNJ := Lib.hid (own_belowG HN.out HBI.out)
        by_cases hltj : j < ns.length
        · obtain ⟨g, o, rfl, hg, hcell0⟩ := HATK.out j hltj
          have hcell := (HBJ.out.cell (p := ⟨g, o + j, none⟩) hg).trans hcell0
          obtain ⟨hx0, hx1⟩ := HNIN.out _ (List.getElem_mem hltj)
          obtain ⟨z, hz⟩ : ∃ z : Nat, ns[j] = z := ⟨(ns[j]).toNat, by omega⟩
          have hzm : z < m.length := by omega
          have hzM : z < M.length := by omega
          obtain ⟨g2, o2, rfl, hg2, hm1', hm2'⟩ := HATM.out z hzm
          have s1 := (HBJ.out.cell (p := ⟨g2, o2 + z * 2, none⟩) hg2).trans hm1'
          have s2' := (HBJ.out.cell (p := ⟨g2, o2 + z * 2 + 1, none⟩) hg2).trans hm2'
          obtain ⟨d0, d1, _, _⟩ := own_atR HNJ.out hmn hzM
          have hzz : (z : Int) < (m.length : Int) := by omega
          have hnx := any_next (f := unlikeP m M) hltj
          have hup : unlikeP m M ns[j] = decide (M[z] ≠ m[z]) := by unfold unlikeP; rw [hz, Int.toNat_natCast, getD_at _ hzm, getD_at _ hzM]
          rw [hup] at hnx
          rw [hz] at hcell
          clear hcell0 hx0 hx1 hz hm1' hm2' hup HATK HATM HNIN HOK HNX HRA HSC
          generalize M[z] = p at *
          generalize m[z] = q at *
          obtain ⟨p1, p2⟩ := p
          obtain ⟨q1, q2⟩ := q
          simp only at d0 d1 s1 s2'
          obtain ⟨a, ha⟩ : ∃ a, (ns.take j).any (unlikeP m M) = a := ⟨_, rfl⟩
          rw [ha] at hnx ⊢
          have HA2 := Lib.hid ha
          clear ha
          obtain ⟨ob, hob⟩ : ∃ ob, (sb || a) = ob := ⟨_, rfl⟩
          have hal : (sb || (ns.take (j + 1)).any (unlikeP m M)) = (ob || decide ((p1, p2) ≠ ((q1, q2) : ResT))) := by rw [hnx, ← hob, Bool.or_assoc]
          rw [hob]
          clear hnx hob
          rcases ob with _ | _
          · by_cases he1 : p1 = q1
            · by_cases he2 : p2 = q2
              · subst he1 he2
                have HEJ : Hid ((sb || (ns.take (j + 1)).any (unlikeP m M)) = false) := by show _ = _; rw [hal]; simp
                clear hal
                go_wp2_with fail
                go_quiet (fail)
                go_wp2_with fail
                go_roundw
                case rel => exact ⟨j + 1, by omega, by go_num, by rw [HEJ.out], below_drewN HBI.out _⟩
                case measure => simp [intOf]; omega
              · subst he1
                have HEJ : Hid ((sb || (ns.take (j + 1)).any (unlikeP m M)) = true) := by show _ = _; rw [hal]; simp [he2]
                clear hal
                go_wp2_with fail
                go_quiet (fail)
                go_wp2_with fail
                go_roundw
                case rel => exact ⟨j + 1, by omega, by go_num, by rw [HEJ.out], below_drewN HBI.out _⟩
                case measure => simp [intOf]; omega
            · have HEJ : Hid ((sb || (ns.take (j + 1)).any (unlikeP m M)) = true) := by show _ = _; rw [hal]; simp [he1]
              clear hal
              go_wp2_with fail
              go_quiet (fail)
              go_wp2_with fail
              go_roundw
              case rel => exact ⟨j + 1, by omega, by go_num, by rw [HEJ.out], below_drewN HBI.out _⟩
              case measure => simp [intOf]; omega
          · have HEJ : Hid ((sb || (ns.take (j + 1)).any (unlikeP m M)) = true) := by show _ = _; rw [hal]; simp
            clear hal
            go_wp2_with fail
            go_quiet (fail)
            go_wp2_with fail
            go_roundw
            case rel => exact ⟨j + 1, by omega, by go_num, by rw [HEJ.out], below_drewN HBI.out _⟩
            case measure => simp [intOf]; omega
        · obtain rfl : j = ns.length := by omega
          rw [List.take_length]
          obtain ⟨d, hd⟩ : ∃ d, (sb || ns.any (unlikeP m M)) = d := ⟨_, rfl⟩
          rw [hd] at HNX ⊢
          have HB5 := Lib.hid (bth HB.out HBI.out (Nat.le_refl _))
          have HCK := Lib.hid (HOK.out _ HBI.out)
          clear HATK HATM HNIN HOK hd
          rcases d with _ | _
          · have HE : Hid (MK (k + 1) = (M, D)) := by have := HNX.out; simpa [Hid] using this
            clear HNX HCK HRA HSC
            go_wp2_with fail
            go_roundw
            case rel => exact ⟨k + 1, by omega, by go_num, by rw [HE.out]; show _ = Value.int _ (runsL bs D : Int); rw [HRR.out], HB5, by rw [HE.out]; exact HNJ⟩
            case measure => simp [intOf]; omega
          · have HE : Hid (MK (k + 1) = (M.set y (r1, r2), D ++ [(y : Int)])) := by have := HNX.out; simpa [Hid] using this
            clear HNX
            obtain ⟨c0, c1, c2, c3⟩ := (P0.out.below HB5.out hsz).cells
            go_wp2_with fail
            refine HCK.out.mono ?_
            rintro e w8 ⟨rfl, hb8⟩
            have hyM : y < M.length := by omega
            have HN8 := Lib.hid (own_belowG HNJ.out hb8)
            have HB8 := Lib.hid (bth HB5.out hb8 (Nat.le_refl _))
            have K8 := Lib.hid (bth HBI.out hb8 (Nat.le_refl _))
            obtain ⟨d0, d1, f0, f1⟩ := own_atR HN8.out hmn hyM
            have hst := own_setR HN8.out hyM (r1, r2)
            obtain ⟨w9, hw9⟩ : ∃ w9, w9 = (w8.setCell ⟨gq, y * 2, none⟩ (.string ⟨r1.toArray⟩)).setCell ⟨gq, y * 2 + 1, none⟩ (.int .i64 r2) := ⟨_, rfl⟩
            rw [← hw9] at hst
            have HN9 := Lib.hid hst.1
            have HB9 := Lib.hid (HB8.out.trans (only_below hst.2 hgq HB8.out.size))
            have HW9 := Lib.hid hw9
            have hsc9 : w9.cell? ⟨gs, os + y, none⟩ = some (.bool sb) := by
              rw [hw9, set_ne _ _ (by omega), set_ne _ _ (by omega)]
              exact HSC.out w8 K8.out
            clear hst hw9 hb8 c0 c1 c2 c3 HCK
            obtain ⟨c0, c1, c2, c3⟩ := (P0.out.below HB9.out hsz).cells
            go_upto_region 16 with fail
            rw [← HW9.out]
            clear d0 d1 f0 f1 HW9
            have hs1 : IntKind.i64.wrap ((r : Int) + 1) = (r : Int) + 1 := by rw [IntKind.wrap_i64]; omega
            rcases sb with _ | _
            · have HR2 : Hid (runsL bs (D ++ [(y : Int)]) = r + 1) := by have := HRA.out; simpa [Hid] using this
              clear HRA HSC
              go_wp2_with fail
              go_roundw
              case rel => exact ⟨k + 1, by omega, by go_num, by rw [HE.out]; show _ = Value.int _ (runsL bs (D ++ [(y : Int)]) : Int); rw [HR2.out]; go_num, HB9, by rw [HE.out]; exact HN9⟩
              case measure => simp [intOf]; omega
            · have HR2 : Hid (runsL bs (D ++ [(y : Int)]) = r) := by have := HRA.out; simpa [Hid] using this
              clear HRA HSC
              go_wp2_with fail
              go_roundw
              case rel => exact ⟨k + 1, by omega, by go_num, by rw [HE.out]; show _ = Value.int _ (runsL bs (D ++ [(y : Int)]) : Int); rw [HR2.out], HB9, by rw [HE.out]; exact HN9⟩
              case measure => simp [intOf]; omega
    · obtain rfl : k = l.length := by omega
      have hmn : (MK l.length).1.length = m.length := by have := HML.out l.length; have := HMB.out; omega
      have HMNL := Lib.hid hmn
      clear HATO HATS HATN HATM HIN HMN HON hmn HDUE HNE
      go_wp2_with fail
      go_ret3
      exact ⟨_, rfl, by rw [HMNL.out]; exact own_baseG HN.out HA.out.size, HBW.out⟩

end Go.Proofs.YtngldlconipnnaaGreatDoor

/- Walks: those that a test picks whose first arguments are bound; what is stale, of the program. -/
namespace Go.Proofs.YtngldlconipnnaaGreatDoor
open Go.RowKit Pth

/-- A function value, with arguments bound ahead or none, that tells of each number of D whether p holds. -/
def TestF (w0 : World) (fv : Value) (D : Int → Prop) (p : Int → Bool) : Prop :=
  ∃ K fst cap, fv = .func (.func K) fst cap ∧ (∀ args w, (callFunc K args).run Tryz.prog w = .ok (.enter K args) w) ∧ ∀ W, Below w0.heap.size w0 W → ∀ x, D x → Calls Tryz.prog K ((fst ++ #[.int .i64 x]) ++ cap) W (BoolB (p x) W)
theorem TestF.below {w w' : World} {fv : Value} {D : Int → Prop} {p : Int → Bool} (h : TestF w fv D p) (hb : Below w.heap.size w w') : TestF w' fv D p := by
  obtain ⟨K, fst, cap, h1, h2, h3⟩ := h
  exact ⟨K, fst, cap, h1, h2, fun W hW x hx => h3 W (bth hb hW (Nat.le_refl _)) x hx⟩

set_option maxRecDepth 20000 in
set_option maxHeartbeats 4000000 in
theorem orderedF_any (ls : List (List Int)) (l : List Int) (p : Int → Bool) (v fv : Value) (w : World) (hst : GraphV w v ls l) (ht : TestF w fv (· ∈ l) p) (h10 : l.length ≤ 1000) :
    Calls Tryz.prog 177 #[v, fv] w (IntsPost w.heap.size (l.filter p) w) := by
  obtain ⟨nv, ov, rfl, h1, h2⟩ := hst
  obtain ⟨an, cn, rfl, hn1, hn2, _⟩ := h1.lists
  obtain ⟨ao, co, rfl, ho1, ho2, hao⟩ := h2.ints
  clear h1 h2
  unfold maxLen at hn2 ho2
  obtain ⟨K, fst, cap, rfl, hent, ht⟩ := ht
  have HT := Lib.hid ht
  have HAO := Lib.hid hao
  clear hao ht
  obtain ⟨wa, hwa⟩ : ∃ wa, wa = w.alloc (.cells #[.slice an ls.length cn, .slice ao l.length co] 26) := ⟨_, rfl⟩
  have HA : Hid (Below w.heap.size w wa) := by rw [hwa]; exact (Below.refl w.heap.size w).alloc (Nat.le_refl _) _
  have HWA := Lib.hid hwa
  clear hwa
  go_enter Tryz.func177, Tryz.ntmps177
  go_wp2_with fail
  rw [← HWA.out]
  go_loopw [5, 11] (fun q i wr => ∃ k : Nat, k ≤ l.length ∧ i = .int .i64 k ∧ Hid (Below w.heap.size w wr) ∧ Hid (wr.ownsRow w.heap.size 3 1 q ((l.take k).filter p).length (I ((l.take k).filter p)))) (fun _ i _ => l.length - (intOf i).toNat)
  case atStart => exact ⟨0, Nat.zero_le _, rfl, HA, none_ownZ _ _ _⟩
  case round =>
    obtain ⟨k, hk, rfl, HB, HN⟩ := hrel
    by_cases hlt : k < l.length
    · obtain ⟨g, o, rfl, hg, hc⟩ := HAO.out k hlt
      have hc1 : wr.cell? ⟨g, o + k, none⟩ = some (.int .i64 l[k]) := by rw [HB.out.cell (p := ⟨g, o + k, none⟩) hg, hc]
      have HC := HT.out wr HB.out l[k] (List.getElem_mem hlt)
      have hfl : ((l.take k).filter p).length ≤ k := by have := List.length_filter_le p (l.take k); rw [List.length_take] at this; omega
      rcases hb : p l[k] with _ | _
      · have HE := Lib.hid (filter_no hlt hb)
        rw [hb] at HC
        have HCC := Lib.hid HC
        obtain ⟨qa, qc, hq⟩ := own_slice HN.out
        subst hq
        clear hc hb HC hfl
        generalize l[k] = x at *
        go_wp2_with fail
        refine HCC.out.mono ?_
        rintro e w2 ⟨rfl, hb2⟩
        have HB2 := Lib.hid (bth HB.out hb2 (Nat.le_refl _))
        have HN2 := Lib.hid (own_below HN.out hb2)
        clear hb2
        go_wp2_with fail
        go_roundw
        case rel => exact ⟨k + 1, by omega, by go_num, HB2, by rw [HE.out]; exact HN2.out⟩
        case measure => simp [intOf]; omega
      · have HE := Lib.hid (filter_yes hlt hb)
        rw [hb] at HC
        have HCC := Lib.hid HC
        have hIl : (I ((l.take k).filter p)).length ≤ 1000000 := by rw [I_len]; omega
        clear hc hb HC hfl
        generalize l[k] = x at *
        generalize (l.take k).filter p = m at *
        go_wp2_with fail
        refine HCC.out.mono ?_
        rintro e w2 ⟨rfl, hb2⟩
        have HB2 := Lib.hid (bth HB.out hb2 (Nat.le_refl _))
        have HNA := Lib.hid (own_Z (own_below HN.out hb2))
        clear hb2 HN
        go_wp2_with (at_builtin; refine wpAppOne elemI rfl _ _ rfl w.heap.size _ (I m) rfl HNA.out _ rfl rfl rfl hIl HB2.out.size ?_; intro v7 w7 hown7 hg7; have HN7 := Lib.hid (own_Z2 hown7); have HB7 := Lib.hid (HB2.out.trans (below_own HNA.out hg7 HB2.out.size)); clear hown7 hg7)
        go_roundw
        case rel => exact ⟨k + 1, by omega, by go_num, HB7, by rw [HE.out]; exact HN7.out⟩
        case measure => simp [intOf]; omega
    · rw [List.take_of_length_le (by omega)] at HN
      obtain ⟨qa, qc, hq⟩ := own_slice HN.out
      subst hq
      go_wp2_with fail
      go_ret
      exact ⟨_, rfl, HN.out, HB.out⟩
set_option maxRecDepth 20000 in
set_option maxHeartbeats 2000000 in
theorem risingF_any (ls : List (List Int)) (l : List Int) (p : Int → Bool) (v fv : Value) (w : World) (hst : GraphV w v ls l) (ht : TestF w fv (· ∈ l) p) (hg : GoodP ls l) :
    Calls Tryz.prog 141 #[v, fv] w (IntsPost w.heap.size ((upto ls.length).filter p) w) := by
  have HV := Lib.hid hst
  have HT := Lib.hid ht
  have HE := Lib.hid (rising_is hg p)
  have h10 : l.length ≤ 10 := by have := hg.same; have := hg.high; omega
  obtain ⟨nv, ov, rfl, h1, h2⟩ := hst
  obtain ⟨an, cn, rfl, hn1, hn2, _⟩ := h1.lists
  obtain ⟨ao, co, rfl, ho1, ho2, _⟩ := h2.ints
  clear h1 h2 ht hg
  unfold maxLen at hn2 ho2
  obtain ⟨wa, hwa⟩ : ∃ wa, wa = w.alloc (.cells #[.slice an ls.length cn, .slice ao l.length co] 26) := ⟨_, rfl⟩
  have P0 : Hid (Blk2 wa w.heap.size 26 (.slice an ls.length cn) (.slice ao l.length co)) := by rw [hwa]; exact Blk2.new
  have HA : Hid (Below w.heap.size w wa) := by rw [hwa]; exact (Below.refl w.heap.size w).alloc (Nat.le_refl _) _
  have HWA := Lib.hid hwa
  have c0 := P0.out.cells.1
  have c1 := P0.out.cells.2
  have HC := Lib.hid (orderedF_any ls l p _ fv wa (HV.out.below HA.out) (HT.out.below HA.out) (by omega))
  have hfl : (l.filter p).length ≤ 10 := by have := List.length_filter_le p l; omega
  have HS := Lib.hid (fun u B W ho hB => sortInts_any (l.filter p) u B W ho (by omega) hB)
  clear hwa hfl
  generalize l.filter p = m at *
  go_enter Tryz.func141, Tryz.ntmps141
  go_wp2_with fail
  rw [← HWA.out]
  refine HC.out.mono ?_
  rintro e w1 ⟨v1, rfl, ho1', hb1⟩
  have HB1 := Lib.hid (bth HA.out hb1 (Nat.le_refl _))
  have HO1 := Lib.hid ho1'
  obtain ⟨qa, qc, hq⟩ := own_slice ho1'
  subst hq
  have hs1 := hb1.size
  clear ho1' hb1 c0 c1 HC
  go_wp2_with fail
  refine (HS.out _ wa.heap.size w1 HO1.out hs1).mono ?_
  rintro e w2 ⟨rfl, ho2', hb2⟩
  have HO2 := Lib.hid ho2'
  rw [HE.out] at HO2
  have HB2 := Lib.hid (HB1.out.trans (hb2.mono HA.out.size))
  clear ho2' hb2
  go_wp2_with fail
  go_ret
  exact ⟨_, rfl, own_base HO2.out HA.out.size, HB2.out⟩

theorem stale_filter (one : List ResT → Nat → ResT) (m : List ResT) : (upto m.length).filter (fun x => staleP one m x.toNat) = staleL one m := by
  unfold upto staleL
  rw [List.filter_map]
  rfl

end Go.Proofs.YtngldlconipnnaaGreatDoor

/- Walks: those that are due are made along the order, of the program. -/
namespace Go.Proofs.YtngldlconipnnaaGreatDoor
open Go.RowKit Pth

/-- A function value that tells of results on their way and a task whether that is due. -/
def DueV (w0 : World) (fv : Value) (ls : List (List Int)) (l : List Int) (bs : List Bool) (rs : List (List OpT)) (ts : List (List UInt8)) (m0 : List ResT) (due : List ResT → Nat → Bool) : Prop :=
  ∃ K cap, fv = .func (.func K) #[] cap ∧ (∀ args w, (callFunc K args).run Tryz.prog w = .ok (.enter K args) w) ∧ ∀ W, Below w0.heap.size w0 W → ∀ v m (y : Nat), RemV W v ls l bs rs ts m0 m → m.length = bs.length → Sml m → y < ls.length → Calls Tryz.prog K (#[v, .int .i64 (y : Int)] ++ cap) W (BoolB (due m y) W)
theorem DueV.below {w w' : World} {fv : Value} {ls : List (List Int)} {l : List Int} {bs : List Bool} {rs : List (List OpT)} {ts : List (List UInt8)} {m0 : List ResT} {due : List ResT → Nat → Bool} (h : DueV w fv ls l bs rs ts m0 due) (hb : Below w.heap.size w w') : DueV w' fv ls l bs rs ts m0 due := by
  obtain ⟨K, cap, h1, h2, h3⟩ := h
  exact ⟨K, cap, h1, h2, fun W hW => h3 W (bth hb hW (Nat.le_refl _))⟩
/-- Results, the tasks that were made, and whether they stand. -/
def MadeOk (R : List ResT) (M : List Int) (ok : Bool) (w : World) (e : Ending) (w' : World) : Prop :=
  ∃ v u, e = .returned (.tuple #[v, u, .bool ok]) ∧ w'.ownsRow w.heap.size 89 2 v R.length (RC R) ∧ w'.ownsRow w.heap.size 3 1 u M.length (I M) ∧ Below w.heap.size w w'
theorem own_neBlk {w : World} {B e n z b t : Nat} {v : Value} {xs : List Value} {cs : Array Value} {fr : Nat × Nat} (h : w.ownsRow B e z v n xs) (hb : w.heap[b]? = some (.cells cs t fr)) (hne : e ≠ t) : v.ownBlock ≠ some b := by
  rcases h.2 with ⟨hv, _⟩ | ⟨g, cap, cur, hv, _, hh, _⟩
  · rw [hv]; intro e; cases e
  · intro e
    rw [hv] at e
    have : g = b := Option.some.inj e
    subst this
    rw [hh] at hb
    injection hb with hb
    injection hb with _ h2 _
    exact hne h2

set_option maxRecDepth 20000 in
set_option maxHeartbeats 8000000 in
theorem runsIn_any (ls : List (List Int)) (l : List Int) (bs : List Bool) (rs : List (List OpT)) (d : List Int) (v u : Value) (w : World) (hp : PlanV w v ls l bs rs) (hd : RowV w u (I d)) (hin : ∀ x ∈ d, 0 ≤ x ∧ x < (bs.length : Int)) (hd10 : d.length ≤ 1000) :
    Calls Tryz.prog 88 #[v, u] w fun e w' => e = .returned (.int .i64 (runsL bs d : Int)) ∧ Below w.heap.size w w' := by
  obtain ⟨ad, cd, rfl, hd1, hd2, hatd⟩ := hd.ints
  have HV := Lib.hid hp
  obtain ⟨nv, ov, sv, rv, rfl, h1, h2, h3, h4⟩ := hp
  obtain ⟨as0, cs, rfl, hs1, hs2, hats⟩ := h3.boolsW
  obtain ⟨an, cn, rfl, hn1, hn2, _⟩ := h1.lists
  obtain ⟨ao, co, rfl, ho1, ho2, _⟩ := h2.ints
  obtain ⟨ar, cr, rfl, hr1, hr2, _⟩ := h4.lists
  clear h1 h2 h3 h4
  unfold maxLen at hs2 hn2 ho2 hr2
  obtain ⟨wa, hwa⟩ : ∃ wa, wa = w.alloc (.cells #[.slice an ls.length cn, .slice ao l.length co, .slice as0 bs.length cs, .slice ar rs.length cr] 30) := ⟨_, rfl⟩
  have hsz : w.heap.size < wa.heap.size := by rw [hwa]; simp
  have P0 : Hid (Blk4 wa w.heap.size 30 (.slice an ls.length cn) (.slice ao l.length co) (.slice as0 bs.length cs) (.slice ar rs.length cr)) := by rw [hwa]; exact Blk4.new
  have HA : Hid (Below w.heap.size w wa) := by rw [hwa]; exact (Below.refl w.heap.size w).alloc (Nat.le_refl _) _
  have HWA : Hid (w.alloc (.cells #[.slice an ls.length cn, .slice ao l.length co, .slice as0 bs.length cs, .slice ar rs.length cr] 30) = wa) := by rw [hwa]; rfl
  clear hwa
  unfold maxLen at hd2
  have HATD := Lib.hid hatd
  have HATS := Lib.hid hats
  have HIN := Lib.hid hin
  obtain ⟨c0, c1, c2, c3⟩ := P0.out.cells
  clear hd hatd hats hin
  go_enter Tryz.func88, Tryz.ntmps88
  go_wp2_with fail
  rw [HWA.out]
  clear c0 c1 c2 c3
  go_loopw [5, 10] (fun q i wr => ∃ k : Nat, k ≤ d.length ∧ i = .int .i64 k ∧ q = .int .i64 (runsL bs (d.take k) : Int) ∧ Hid (Below wa.heap.size wa wr)) (fun _ i _ => d.length - (intOf i).toNat)
  case atStart => exact ⟨0, Nat.zero_le _, rfl, rfl, Below.refl _ _⟩
  case round =>
    obtain ⟨k, hk, rfl, rfl, HB⟩ := hrel
    have HBW := Lib.hid (bth HA.out HB.out (Nat.le_refl _))
    by_cases hlt : k < d.length
    · obtain ⟨g, o, rfl, hg, hcell0⟩ := HATD.out k hlt
      have hcell := (HBW.out.cell (p := ⟨g, o + k, none⟩) hg).trans hcell0
      obtain ⟨hx0, hx1⟩ := HIN.out _ (List.getElem_mem hlt)
      obtain ⟨y, hy⟩ : ∃ y : Nat, d[k] = y := ⟨(d[k]).toNat, by omega⟩
      have hyb : y < bs.length := by omega
      obtain ⟨gs, os, rfl, hgs, hcs⟩ := HATS.out y hyb
      have hsc := (HBW.out.cell (p := ⟨gs, os + y, none⟩) hgs).trans hcs
      have hyz : (y : Int) < (bs.length : Int) := by omega
      have hle : runsL bs (d.take k) ≤ 1000 := Nat.le_trans (runs_le _ _) (by rw [List.length_take]; omega)
      have hnx : runsL bs (d.take (k + 1)) = runsL bs (d.take k) + (if bs[y] then 0 else 1) := by rw [List.take_succ_eq_append_getElem hlt, runs_app, hy, Int.toNat_natCast, getD_at _ hyb]
      have HNX := Lib.hid hnx
      rw [hy] at hcell
      obtain ⟨c0, c1, c2, c3⟩ := (P0.out.below HB.out hsz).cells
      clear hcell0 hx0 hx1 hy hgs hcs HATD HATS HIN hnx
      generalize runsL bs (d.take k) = r at *
      have hs : IntKind.i64.wrap ((r : Int) + 1) = (r : Int) + 1 := by rw [IntKind.wrap_i64]; omega
      generalize bs[y] = b at *
      rcases b with _ | _
      · have HN2 : Hid (runsL bs (d.take (k + 1)) = r + 1) := by have := HNX.out; simpa [Hid] using this
        clear HNX
        go_wp2_with fail
        go_roundw
        case rel => exact ⟨k + 1, by omega, by go_num, by rw [HN2.out]; go_num, HB⟩
        case measure => simp [intOf]; omega
      · have HN2 : Hid (runsL bs (d.take (k + 1)) = r) := by have := HNX.out; simpa [Hid] using this
        clear HNX
        go_wp2_with fail
        go_roundw
        case rel => exact ⟨k + 1, by omega, by go_num, by rw [HN2.out], HB⟩
        case measure => simp [intOf]; omega
    · obtain rfl : k = d.length := by omega
      have HT : Hid (runsL bs (d.take d.length) = runsL bs d) := by show _ = _; rw [List.take_length]
      clear HATD HATS HIN
      go_wp2_with fail
      go_ret
      exact ⟨by first | rfl | (simp only [List.take_length]; rfl) | (rw [HT.out] <;> rfl), HBW.out⟩

set_option maxRecDepth 20000 in
set_option maxHeartbeats 8000000 in
theorem makeWhere_no (ls : List (List Int)) (l : List Int) (bs : List Bool) (rs : List (List OpT)) (m : List ResT) (ts : List (List UInt8)) (an ao as0 ar at0 am : Option Addr) (cn co cs cr ct cm : Nat) (fv : Value) (_due : List ResT → Nat → Bool) (w : World) (hp : PlanV w (.agg #[.slice an ls.length cn, .slice ao l.length co, .slice as0 bs.length cs, .slice ar rs.length cr]) ls l bs rs) (hr : RowR w (.slice am m.length cm) m) (hts : RowV w (.slice at0 ts.length ct) (S ts)) (hx : ∀ l ∈ rs, ∀ f ∈ l, f.2.2.length ≤ maxLen) (hxm : ∀ f ∈ m, f.1.length ≤ maxLen) (hxt : ∀ x ∈ ts, x.length ≤ maxLen) (hg : goodA8 ls l bs rs m ts = false) :
    Calls Tryz.prog 87 #[.agg #[.slice an ls.length cn, .slice ao l.length co, .slice as0 bs.length cs, .slice ar rs.length cr], .slice am m.length cm, .slice at0 ts.length ct, fv] w (MadeOk [] [] false w) := by
  have HV := Lib.hid hp
  have HR := Lib.hid hr
  have HT := Lib.hid hts
  obtain ⟨wa, hwa⟩ : ∃ wa, wa = w.alloc (.cells #[.slice an ls.length cn, .slice ao l.length co, .slice as0 bs.length cs, .slice ar rs.length cr] 30) := ⟨_, rfl⟩
  have hsz : w.heap.size < wa.heap.size := by rw [hwa]; simp
  have P0 : Hid (Blk4 wa w.heap.size 30 (.slice an ls.length cn) (.slice ao l.length co) (.slice as0 bs.length cs) (.slice ar rs.length cr)) := by rw [hwa]; exact Blk4.new
  have HA : Hid (Below w.heap.size w wa) := by rw [hwa]; exact (Below.refl w.heap.size w).alloc (Nat.le_refl _) _
  have HWA : Hid (w.alloc (.cells #[.slice an ls.length cn, .slice ao l.length co, .slice as0 bs.length cs, .slice ar rs.length cr] 30) = wa) := by rw [hwa]; rfl
  clear hwa
  have HC := Lib.hid (startRem_no ls l bs rs m ts an ao as0 ar at0 am cn co cs cr ct cm wa (HV.out.below HA.out) (HR.out.below HA.out) (HT.out.below HA.out) hx hxm hxt hg)
  obtain ⟨c0, c1, c2, c3⟩ := P0.out.cells
  clear hp hr hts hx hxm hxt hg
  go_enter Tryz.func87, Tryz.ntmps87
  go_wp2_with fail
  rw [HWA.out]
  refine HC.out.mono ?_
  rintro e w1 ⟨rfl, hb1⟩
  have HW1 := Lib.hid ((bth HA.out hb1 (Nat.le_refl _)).alloc (Nat.le_trans HA.out.size hb1.size) (.cells #[.slice none 0 0, .slice none 0 0, .slice none 0 0, .slice none 0 0, .slice none 0 0, .slice none 0 0, .slice none 0 0] 121))
  clear hb1 c0 c1 c2 c3 HC
  go_wp2_with fail
  go_ret3
  exact ⟨_, _, rfl, none_ownR _ _, none_own _ _ _, HW1.out⟩

set_option maxRecDepth 20000 in
set_option maxHeartbeats 8000000 in
theorem makeWhere_yes (ls : List (List Int)) (l : List Int) (bs : List Bool) (rs : List (List OpT)) (m : List ResT) (ts : List (List UInt8)) (an ao as0 ar at0 am : Option Addr) (cn co cs cr ct cm : Nat) (fv : Value) (due : List ResT → Nat → Bool) (w : World) (hp : PlanV w (.agg #[.slice an ls.length cn, .slice ao l.length co, .slice as0 bs.length cs, .slice ar rs.length cr]) ls l bs rs) (hr : RowR w (.slice am m.length cm) m) (hts : RowV w (.slice at0 ts.length ct) (S ts)) (hx : ∀ l ∈ rs, ∀ f ∈ l, f.2.2.length ≤ maxLen) (hxm : ∀ f ∈ m, f.1.length ≤ maxLen) (hxt : ∀ x ∈ ts, x.length ≤ maxLen) (hg : goodA8 ls l bs rs m ts = true) (hdue : DueV w fv ls l bs rs ts m due) :
    Calls Tryz.prog 87 #[.agg #[.slice an ls.length cn, .slice ao l.length co, .slice as0 bs.length cs, .slice ar rs.length cr], .slice am m.length cm, .slice at0 ts.length ct, fv] w (MadeOk (passM (oneM ls bs rs ts) due l (m, [])).1 (passM (oneM ls bs rs ts) due l (m, [])).2 true w) := by
  have HPV : Hid (∀ W, Below w.heap.size w W → PlanV W (.agg #[.slice an ls.length cn, .slice ao l.length co, .slice as0 bs.length cs, .slice ar rs.length cr]) ls l bs rs) := fun W h => hp.below h
  have HRV : Hid (∀ W, Below w.heap.size w W → RowR W (.slice am m.length cm) m) := fun W h => hr.below h
  have HTV : Hid (∀ W, Below w.heap.size w W → RowV W (.slice at0 ts.length ct) (S ts)) := fun W h => hts.below h
  obtain ⟨hpl, hmb, htb, hsm, hst, _, _⟩ := good8_parts hg
  have hG := (plan_parts hpl).1
  have hbl := (plan_parts hpl).2.1
  have hml : m.length = ls.length := by omega
  have hlo := hG.same
  have hhi := hG.high
  have hl10 : l.length ≤ 10 := by omega
  obtain ⟨wa, hwa⟩ : ∃ wa, wa = w.alloc (.cells #[.slice an ls.length cn, .slice ao l.length co, .slice as0 bs.length cs, .slice ar rs.length cr] 30) := ⟨_, rfl⟩
  have hsz : w.heap.size < wa.heap.size := by rw [hwa]; simp
  have P0 : Hid (Blk4 wa w.heap.size 30 (.slice an ls.length cn) (.slice ao l.length co) (.slice as0 bs.length cs) (.slice ar rs.length cr)) := by rw [hwa]; exact Blk4.new
  have HA : Hid (Below w.heap.size w wa) := by rw [hwa]; exact (Below.refl w.heap.size w).alloc (Nat.le_refl _) _
  have HWA : Hid (w.alloc (.cells #[.slice an ls.length cn, .slice ao l.length co, .slice as0 bs.length cs, .slice ar rs.length cr] 30) = wa) := by rw [hwa]; rfl
  clear hwa
  have HC := Lib.hid (startRem_yes ls l bs rs m ts an ao as0 ar at0 am cn co cs cr ct cm wa (HPV.out wa HA.out) (HRV.out wa HA.out) (HTV.out wa HA.out) hx hxm hxt hg)
  have HFR : Hid (∀ W v M (y : Nat), RemV W v ls l bs rs ts m M → M.length = bs.length → Sml M → y < ls.length → Calls Tryz.prog 145 #[v, .int .i64 (y : Int)] W fun e w' => e = .returned (resV (oneM ls bs rs ts M y)) ∧ Below W.heap.size W w') := fun W v M y h1 h2 h3 h4 => fresh_any ls l bs rs m M ts y v W h1 hpl h2 htb h4 h3 hst
  obtain ⟨_, _, _, _, he, k1, k2, _, _⟩ := hp
  injection he with he
  simp only [Array.mk.injEq, List.cons.injEq, and_true] at he
  obtain ⟨rfl, rfl, rfl, rfl⟩ := he
  obtain ⟨_, _, hev, ho1, ho2, hato⟩ := k2.ints
  injection hev with hea _ hec
  subst hea hec
  unfold maxLen at ho2
  have HATO := Lib.hid hato
  have HIN : Hid (∀ k (hk : k < l.length), 0 ≤ l[k] ∧ l[k] < (ls.length : Int)) := fun k hk => by have := hG.tasks _ (List.getElem_mem hk); omega
  obtain ⟨one, hone⟩ : ∃ one, one = oneM ls bs rs ts := ⟨_, rfl⟩
  rw [← hone] at HFR ⊢
  obtain ⟨MK, hMK⟩ : ∃ MK : Nat → List ResT × List Int, MK = fun k => passM one due (l.take k) (m, []) := ⟨_, rfl⟩
  have HML : Hid (∀ k, (MK k).1.length = bs.length) := fun k => by rw [hMK]; simp only; rw [pass_len]; exact hmb
  have HMS : Hid (∀ k, Sml (MK k).1) := fun k => by rw [hMK]; exact pass_sml _ _ (fun _ _ => by rw [hone]; exact oneM_len hst) _ _ hsm
  have HMM : Hid (∀ k, (MK k).2.length ≤ k) := fun k => by rw [hMK]; exact Nat.le_trans (pass_made _ _ _ _) (by rw [List.length_take]; simp; omega)
  have HMN : Hid (∀ k (hk : k < l.length), MK (k + 1) = if due (MK k).1 l[k].toNat then ((MK k).1.set l[k].toNat (one (MK k).1 l[k].toNat), (MK k).2 ++ [l[k]]) else MK k) := fun k hk => by rw [hMK]; exact pass_next _ _ hk _
  have HM0 : Hid (MK 0 = (m, [])) := by rw [hMK]; rfl
  have HMZ : Hid (MK l.length = passM one due l (m, [])) := by rw [hMK]; show _ = _; simp only [List.take_length]
  rw [← HMZ.out]
  obtain ⟨K, cap, rfl, hent, hdu⟩ := hdue
  have HDU := Lib.hid hdu
  have HBL := Lib.hid hbl
  have HMB := Lib.hid hmb
  obtain ⟨c0, c1, c2, c3⟩ := P0.out.cells
  clear hr hts hx hxm hxt hg hpl htb hsm hst hG hMK hone hdu k1 k2 hato hml hmb hbl hhi hlo
  go_enter Tryz.func87, Tryz.ntmps87
  go_wp2_with fail
  rw [HWA.out]
  refine HC.out.mono ?_
  rintro e w1 ⟨g, rfl, ho1', hb1⟩
  have HB1 := Lib.hid hb1
  obtain ⟨wb, hwb⟩ : ∃ wb, wb = w1.alloc (.cells #[.slice an ls.length cn, .slice ao l.length co, .slice as0 bs.length cs, .slice ar rs.length cr, .slice at0 ts.length ct, .slice am m.length cm, .slice (some ⟨g, 0, none⟩) m.length m.length] 121) := ⟨_, rfl⟩
  have hBB : Below w1.heap.size w1 wb := by rw [hwb]; exact (Below.refl _ w1).alloc (Nat.le_refl _) _
  have HWB : Hid (w1.alloc (.cells #[.slice an ls.length cn, .slice ao l.length co, .slice as0 bs.length cs, .slice ar rs.length cr, .slice at0 ts.length ct, .slice am m.length cm, .slice (some ⟨g, 0, none⟩) m.length m.length] 121) = wb) := by rw [hwb]; rfl
  have Q0 : Hid (Blk7 wb w1.heap.size 121 (.slice an ls.length cn) (.slice ao l.length co) (.slice as0 bs.length cs) (.slice ar rs.length cr) (.slice at0 ts.length ct) (.slice am m.length cm) (.slice (some ⟨g, 0, none⟩) m.length m.length)) := by rw [hwb]; exact Blk7.new
  have hsb : wb.heap.size = w1.heap.size + 1 := by rw [hwb]; simp
  have KB := Lib.hid (bth HB1.out hBB (Nat.le_refl _))
  have HN0 := Lib.hid (own_belowG ho1' hBB)
  have hgl : g < w1.heap.size ∧ wa.heap.size ≤ g := ⟨(ho1'.lt g rfl).2, (ho1'.lt g rfl).1⟩
  obtain ⟨hgl1, hgl2⟩ := hgl
  have hgq : w1.heap.size ≠ g := by omega
  have hlt1 : w.heap.size < w1.heap.size := Nat.lt_of_lt_of_le hsz hb1.size
  have hs1 : wa.heap.size ≤ w1.heap.size := hb1.size
  clear hb1 ho1' c0 c1 c2 c3 HC hwb hBB
  obtain ⟨c0, c1, c2, c3⟩ := (P0.out.below HB1.out hsz).cells
  go_wp2_with fail
  rw [HWB.out]
  clear c0 c1 c2 c3
  go_loopw [13, 29] (fun q i wr => ∃ k : Nat, k ≤ l.length ∧ i = .int .i64 k ∧ Hid (Below wa.heap.size wa wr) ∧ Hid (Blk7 wr w1.heap.size 121 (.slice an ls.length cn) (.slice ao l.length co) (.slice as0 bs.length cs) (.slice ar rs.length cr) (.slice at0 ts.length ct) (.slice am m.length cm) (.slice (some ⟨g, 0, none⟩) m.length m.length)) ∧ Hid (wr.ownsRow wa.heap.size 89 2 (.slice (some ⟨g, 0, none⟩) m.length m.length) m.length (RC (MK k).1)) ∧ Hid (wr.ownsRow wa.heap.size 3 1 q (MK k).2.length (I (MK k).2))) (fun _ i _ => l.length - (intOf i).toNat)
  case atStart => exact ⟨0, Nat.zero_le _, rfl, KB, Q0, by rw [HM0.out]; exact HN0, by rw [HM0.out]; exact none_own _ _ _⟩
  case round =>
    clear HN0 Q0
    obtain ⟨k, hk, rfl, HB, HQ, HN, HM⟩ := hrel
    have HBW := Lib.hid (bth HA.out HB.out (Nat.le_refl _))
    have hbs := HB.out.size
    by_cases hlt : k < l.length
    · obtain ⟨go, oo, rfl, hgo, hcell0⟩ := HATO.out k hlt
      have hcell := (HBW.out.cell (p := ⟨go, oo + k, none⟩) hgo).trans hcell0
      obtain ⟨hx0, hx1⟩ := HIN.out k hlt
      have hnext := HMN.out k hlt
      obtain ⟨y, hy⟩ : ∃ y : Nat, l[k] = y := ⟨(l[k]).toNat, by omega⟩
      have hyl : y < ls.length := by omega
      have hmk := HML.out k
      have hms := HMS.out k
      have hmm := HMM.out k
      have hym : y < (MK k).1.length := by have := HBL.out; omega
      rw [hy, Int.toNat_natCast] at hnext
      rw [hy] at hcell
      have hmn : (MK k).1.length = m.length := by have := HMB.out; omega
      have REMW := Lib.hid (fun W (h : Below wr.heap.size wr W) => (⟨_, _, _, _, _, _, _, rfl, HPV.out W (bth HBW.out h (Nat.le_refl _)), HTV.out W (bth HBW.out h (Nat.le_refl _)), HRV.out W (bth HBW.out h (Nat.le_refl _)), RowR.of_ownL (own_belowG HN.out h) hmn⟩ : RemV W (.agg #[.slice an ls.length cn, .slice (some ⟨go, oo, none⟩) l.length co, .slice as0 bs.length cs, .slice ar rs.length cr, .slice at0 ts.length ct, .slice am m.length cm, .slice (some ⟨g, 0, none⟩) m.length m.length]) ls l bs rs ts m (MK k).1))
      have HDK := Lib.hid (HDU.out wr HBW.out _ (MK k).1 y (REMW.out wr (Below.refl _ _)) hmk hms hyl)
      have HFK := Lib.hid (fun W (h : Below wr.heap.size wr W) => HFR.out W _ (MK k).1 y (REMW.out W h) hmk hms hyl)
      have HNX := Lib.hid hnext
      obtain ⟨x0, x1, x2, x3, x4, x5, x6⟩ := HQ.out.cells
      have hyz : (y : Int) < (m.length : Int) := by omega
      have hlq : w1.heap.size < wr.heap.size := lt_of_block HQ.out
      have hlg : g < wr.heap.size := (HN.out.lt g rfl).2
      clear hcell0 hx0 hx1 hy HATO HIN HMN hnext HDU HFR REMW
      generalize MK k = P at *
      obtain ⟨M, D⟩ := P
      simp only at *
      obtain ⟨d, hd⟩ : ∃ d, due M y = d := ⟨_, rfl⟩
      rw [hd] at HDK HNX
      generalize one M y = R at *
      obtain ⟨r1, r2⟩ := R
      unfold resV at HFK
      simp only at HFK
      go_wp2_with fail
      refine HDK.out.mono ?_
      rintro e w2 ⟨rfl, hb2⟩
      have HB2 := Lib.hid (bth HB.out hb2 (Nat.le_refl _))
      have HQ2 := Lib.hid (HQ.out.below hb2 hlq)
      have HN2 := Lib.hid (own_belowG HN.out hb2)
      have HM2 := Lib.hid (own_below HM.out hb2)
      have KB2 := Lib.hid hb2
      have s2 : wr.heap.size ≤ w2.heap.size := hb2.size
      clear hb2 x0 x1 x2 x3 x4 x5 x6 HDK hcell
      rcases d with _ | _
      · have HE : Hid (MK (k + 1) = (M, D)) := by have := HNX.out; simpa [Hid] using this
        clear HNX
        go_wp2_with fail
        go_roundw
        case rel => exact ⟨k + 1, by omega, by go_num, HB2, HQ2, by rw [HE.out]; exact HN2, by rw [HE.out]; exact HM2⟩
        case measure => simp [intOf]; omega
      · have HE : Hid (MK (k + 1) = (M.set y (r1, r2), D ++ [(y : Int)])) := by have := HNX.out; simpa [Hid] using this
        have hlq2 : w1.heap.size < w2.heap.size := by omega
        have PD : Hid (Blk7 w2.drew w1.heap.size 121 (.slice an ls.length cn) (.slice (some ⟨go, oo, none⟩) l.length co) (.slice as0 bs.length cs) (.slice ar rs.length cr) (.slice at0 ts.length ct) (.slice am m.length cm) (.slice (some ⟨g, 0, none⟩) m.length m.length)) := HQ2.out.below (Below.drew (Below.refl _ _)) hlq2
        have KD := Lib.hid (Below.drew KB2.out)
        have ks := PD.out.cells
        have hDl : (I D).length ≤ 1000000 := by rw [I_len]; omega
        clear HNX
        go_wp2_with fail
        go_region_held3 (fun w' => w'.cell? ⟨w1.heap.size, 0, none⟩ = some (.slice an ls.length cn) ∧ w'.cell? ⟨w1.heap.size, 1, none⟩ = some (.slice (some ⟨go, oo, none⟩) l.length co) ∧ w'.cell? ⟨w1.heap.size, 2, none⟩ = some (.slice as0 bs.length cs) ∧ w'.cell? ⟨w1.heap.size, 3, none⟩ = some (.slice ar rs.length cr) ∧ w'.cell? ⟨w1.heap.size, 4, none⟩ = some (.slice at0 ts.length ct) ∧ w'.cell? ⟨w1.heap.size, 5, none⟩ = some (.slice am m.length cm) ∧ w'.cell? ⟨w1.heap.size, 6, none⟩ = some (.slice (some ⟨g, 0, none⟩) m.length m.length)) (first | exact ks | exact ((PQ.out.other (p := ⟨g, y * 2, none⟩) hgq _).other (p := ⟨g, y * 2 + 1, none⟩) hgq _).cells)
          (first
            | (go_at_call 145; refine (HFK.out _ (by exact KD.out)).mono ?_; rintro e w8 ⟨rfl, hb8⟩
               have PQ := Lib.hid (PD.out.below hb8 hlq2)
               have ks := PQ.out.cells
               have C8 := Lib.hid hb8
               have HN8 := Lib.hid (own_belowG (w := w2.drew) (show w2.drew.ownsRow wa.heap.size 89 2 _ _ _ from HN2.out) hb8)
               obtain ⟨d0, d1, f0, f1⟩ := own_atR HN8.out hmn (by omega : y < M.length)
               clear hb8))
        all_goals
          have HM8 := Lib.hid (own_below (w := w2.drew) (show w2.drew.ownsRow wa.heap.size 3 1 _ _ _ from HM2.out) C8.out)
          have hB8 : Below wa.heap.size wa w8 := (Below.drew HB2.out).trans (C8.out.mono (by show _ ≤ w2.heap.size; omega))
          have hst := own_setR HN8.out (by omega : y < M.length) (r1, r2)
          obtain ⟨w9, hw9⟩ : ∃ w9, w9 = (w8.setCell ⟨g, y * 2, none⟩ (.string ⟨r1.toArray⟩)).setCell ⟨g, y * 2 + 1, none⟩ (.int .i64 r2) := ⟨_, rfl⟩
          rw [← hw9] at hst
          have HQ9 : Hid (Blk7 w9 w1.heap.size 121 (.slice an ls.length cn) (.slice (some ⟨go, oo, none⟩) l.length co) (.slice as0 bs.length cs) (.slice ar rs.length cr) (.slice at0 ts.length ct) (.slice am m.length cm) (.slice (some ⟨g, 0, none⟩) m.length m.length)) := by rw [hw9]; exact (PQ.out.other (p := ⟨g, y * 2, none⟩) hgq _).other (p := ⟨g, y * 2 + 1, none⟩) hgq _
          have HN9 := Lib.hid hst.1
          have HM9 := Lib.hid (own_apartG HM8.out (show w8.grownBy w9 (Value.slice (some ⟨g, 0, none⟩) m.length m.length).ownBlock from hst.2) (own_typesG HN8.out HM8.out (by decide)))
          have HB9 := Lib.hid (hB8.trans (only_below hst.2 hgl2 hB8.size))
          have hs9 := HB9.out.size
          have HW9 := Lib.hid hw9
          clear hst ks d0 d1 f0 f1 hB8 hw9
          go_upto_region 10 with fail
          rw [← HW9.out]
          clear HW9
          go_wp2_with (at_builtin; refine wpAppOne elemI rfl _ _ rfl wa.heap.size _ (I D) rfl (by rw [I_len]; exact HM9.out) _ rfl (by simp) rfl hDl hs9 ?_; intro v7 w7 hown7 hg7; have HM7 := Lib.hid (own_I2 hown7); have HB7 := Lib.hid (HB9.out.trans (below_own HM9.out hg7 hs9)); have HN7 := Lib.hid (own_apartG HN9.out hg7 (own_typesG HM9.out HN9.out (by decide))); have HQ7 := Lib.hid ((hg7.block _ (lt_of_block HQ9.out) (fun e => own_neBlk HM9.out HQ9.out (by decide) e.symm)).trans HQ9.out); clear hown7 hg7)
          go_roundw
          case rel => exact ⟨k + 1, by omega, by go_num, HB7, HQ7, by rw [HE.out]; exact HN7, by rw [HE.out]; exact HM7⟩
          case measure => simp [intOf]; omega
    · obtain rfl : k = l.length := by omega
      have hmn : (MK l.length).1.length = m.length := by have := HML.out l.length; have := HMB.out; omega
      have HMNL := Lib.hid hmn
      obtain ⟨qa, qc, rfl⟩ := own_slice HM.out
      obtain ⟨x0, x1, x2, x3, x4, x5, x6⟩ := HQ.out.cells
      clear HATO HIN HMN HDU HFR
      go_wp2_with fail
      go_ret3
      exact ⟨_, _, rfl, by rw [HMNL.out]; exact own_baseG HN.out HA.out.size, own_base HM.out HA.out.size, HBW.out⟩

end Go.Proofs.YtngldlconipnnaaGreatDoor

/- Walks: the reference's l6Needed, NeededFor. -/
namespace Go.Proofs.YtngldlconipnnaaGreatDoor
open Go.RowKit Pth

end Go.Proofs.YtngldlconipnnaaGreatDoor

/- Walks: the reference's ReadyWith and MustMake. -/
namespace Go.Proofs.YtngldlconipnnaaGreatDoor
open Go.RowKit Pth

/-- One that is not among some, and so many of what it needs are. -/
def readyK (cs : List Int) (k : Int) (nd : List Int) : Bool := !hasL cs k && !nd.any (fun x => !hasL cs x)
theorem readyK_snoc (cs : List Int) (k : Int) (nd : List Int) (x : Int) : readyK cs k (nd ++ [x]) = (readyK cs k nd && hasL cs x) := by
  unfold readyK
  rw [List.any_append]
  cases hasL cs k <;> cases nd.any (fun x => !hasL cs x) <;> cases hx : hasL cs x <;> simp [hx]
theorem readyK_nil (cs : List Int) (k : Int) : readyK cs k [] = !hasL cs k := by unfold readyK; simp
theorem readyK_all {ls : List (List Int)} {cs : List Int} {k : Nat} (hk : k < ls.length) : readyK cs k ls[k] = readyP ls cs k := by unfold readyK readyP; rw [needsAt_get hk]
theorem upto_yes {p : Int → Bool} {k : Nat} (h : p (k : Int) = true) : (upto (k + 1)).filter p = (upto k).filter p ++ [(k : Int)] := by
  rw [upto_succ, List.filter_append, List.filter_cons, h]; rfl
theorem upto_no {p : Int → Bool} {k : Nat} (h : p (k : Int) = false) : (upto (k + 1)).filter p = (upto k).filter p := by
  rw [upto_succ, List.filter_append, List.filter_cons, h]; simp

/-- One that is touched and needed. -/
noncomputable def mustP (ls : List (List Int)) (cs ds : List Int) (y : Int) : Bool := hasL (touchS ls cs) y && hasL (needS ls ds) y
noncomputable def mustA_v (ls : List (List Int)) (l cs ds : List Int) : List Int := l.filter (mustP ls cs ds)
noncomputable def mustA (ls : List (List Int)) (l cs ds : List Int) : List Int := if someG ls l cs && someG ls l ds then mustA_v ls l cs ds else []
theorem mustA_no {ls : List (List Int)} {l cs ds : List Int} (h : (someG ls l cs && someG ls l ds) = false) : mustA ls l cs ds = [] := by unfold mustA; rw [h]; rfl
theorem mustA_yes {ls : List (List Int)} {l cs ds : List Int} (h : (someG ls l cs && someG ls l ds) = true) : mustA ls l cs ds = mustA_v ls l cs ds := by unfold mustA; rw [h]; rfl
theorem mustA_short (ls : List (List Int)) (l cs ds : List Int) : (mustA ls l cs ds).length ≤ 1000000 := by
  rcases h : (someG ls l cs && someG ls l ds) with _ | _
  · rw [mustA_no h]; simp
  · rw [mustA_yes h]
    have h1 := (some_yes2 h).1.high
    have h2 := (some_yes2 h).1.same
    exact Nat.le_trans (List.length_filter_le _ _) (by omega)

end Go.Proofs.YtngldlconipnnaaGreatDoor

/- Marks as mathematics; markUsers again, with what it leaves as it was. -/
namespace Go.Proofs.YtngldlconipnnaaGreatDoor
open Go.RowKit Pth

theorem Up.congr {ls : List (List Int)} {l : List Int} (hg : GoodP ls l) {P Q : Int → Prop} (h : ∀ z ∈ l, P z → Q z) {y : Int} (hy : y ∈ l) (hu : Up ls P y) : Up ls Q y := by
  induction hu with
  | base hp => exact .base (h _ hy hp)
  | @step k x h0 hx _ ih =>
    obtain ⟨i, hi, rfl⟩ := List.getElem_of_mem hy
    exact .step h0 hx (ih (List.mem_of_mem_take (hg.needs_take hi hx)))
theorem Dn.congr {ls : List (List Int)} {l : List Int} (hg : GoodP ls l) {P Q : Int → Prop} (h : ∀ z ∈ l, P z → Q z) (hP : ∀ z, P z → z ∈ l) {y : Int} (hu : Dn ls P y) : Dn ls Q y := by
  have key : ∀ {y}, Dn ls P y → y ∈ l := by
    intro y hy
    cases hy with
    | base hp => exact hP _ hp
    | @step k u h0 hx _ =>
      obtain ⟨i, hi, rfl⟩ := List.getElem_of_mem (hg.all.2 ⟨h0, needs_in h0 hx⟩)
      exact List.mem_of_mem_take (hg.needs_take hi hx)
  induction hu with
  | base hp => exact .base (h _ (hP _ hp) hp)
  | step h0 hx _ ih => exact .step h0 hx ih
theorem markB_set {bs : List Bool} {u : Nat} {b : Bool} {z : Int} (hu : u < bs.length) (hz : 0 ≤ z) : markB (bs.set u b) z = if z = (u : Int) then b else markB bs z := by
  obtain ⟨n, rfl⟩ : ∃ n : Nat, z = n := ⟨z.toNat, by omega⟩
  unfold markB
  rw [show ((n : Int)).toNat = n by omega, List.getD_eq_getElem?_getD, List.getD_eq_getElem?_getD, List.getElem?_set]
  by_cases h : n = u
  · subst h; simp [hu]
  · rw [if_neg (fun e => h e.symm), if_neg (by omega)]
theorem markOne_mem {u : Nat} {nd : List Int} (hn : (u : Int) ∉ nd) (h0 : ∀ x ∈ nd, 0 ≤ x) : ∀ {bs : List Bool} (_ : u < bs.length) {y : Int} (_ : 0 ≤ y), markB (markOne u bs nd) y = true ↔ markB bs y = true ∨ (y = (u : Int) ∧ ∃ x ∈ nd, markB bs x = true) := by
  induction nd with
  | nil => intro bs hu y hy; simp [markOne]
  | cons x r ih =>
    intro bs hu y hy
    rw [List.mem_cons, not_or] at hn
    have hx0 := h0 x (by simp)
    show markB (markOne u (bs.set u (markB bs u || markB bs x)) r) y = true ↔ _
    have hlen : u < (bs.set u (markB bs u || markB bs x)).length := by rw [List.length_set]; exact hu
    rw [ih hn.2 (fun z hz => h0 z (by simp [hz])) hlen hy, markB_set hu hy]
    have key : ∀ z ∈ r, markB (bs.set u (markB bs u || markB bs x)) z = markB bs z := fun z hz => by
      rw [markB_set hu (h0 z (by simp [hz])), if_neg (fun e => hn.2 (by rw [← e]; exact hz))]
    by_cases hyu : y = (u : Int)
    · subst hyu
      rw [if_pos rfl, Bool.or_eq_true]
      constructor
      · rintro ((h | h) | ⟨_, z, hz, h⟩)
        · exact .inl h
        · exact .inr ⟨rfl, x, by simp, h⟩
        · exact .inr ⟨rfl, z, by simp [hz], by rw [← key z hz]; exact h⟩
      · rintro (h | ⟨_, z, hz, h⟩)
        · exact .inl (.inl h)
        · rw [List.mem_cons] at hz
          rcases hz with rfl | hz
          · exact .inl (.inr h)
          · exact .inr ⟨rfl, z, hz, by rw [key z hz]; exact h⟩
    · rw [if_neg hyu]
      constructor
      · rintro (h | ⟨h, _⟩)
        · exact .inl h
        · exact absurd h hyu
      · rintro (h | ⟨h, _⟩)
        · exact .inl h
        · exact absurd h hyu
theorem markUs_up {ls : List (List Int)} {l : List Int} (hg : GoodP ls l) {bs : List Bool} (hb : bs.length = ls.length) : ∀ y ∈ l, (markB (markUs ls bs l) y = true ↔ Up ls (fun z => markB bs z = true) y) := by
  have := up_whole hg (P := fun z => markB bs z = true) (S := fun k y => markB (markUs ls bs (l.take k)) y = true) (fun y _ => by simp [markUs]) (fun k hk y hy => by
    show markB (markUs ls bs (l.take (k + 1))) y = true ↔ _
    have hr := hg.range _ (List.getElem_mem hk)
    obtain ⟨u, hu⟩ : ∃ u : Nat, l[k] = u := ⟨l[k].toNat, by omega⟩
    have hs := hg.self hk
    have hn0 : ∀ x ∈ needsAt ls l[k], 0 ≤ x := fun x hx => (hg.range x (List.mem_of_mem_take (hg.needs_take hk hx))).1
    rw [List.take_succ_eq_append_getElem hk, markUs_snoc]
    rw [hu] at hs hn0 ⊢
    rw [show ((u : Int)).toNat = u by omega]
    exact markOne_mem hs hn0 (by rw [markUs_len, hb]; omega) (hg.range y hy).1)
  simpa using this

/-- The marks of each of some, one by one. -/
def marksOf (F : List (List Int) → List Int → Nat → List Bool → List Bool) (ls : List (List Int)) (l cs : List Int) : List Bool := cs.foldl (fun b c => F ls l c.toNat b) (List.replicate ls.length false)
theorem marksOf_snoc (F : List (List Int) → List Int → Nat → List Bool → List Bool) (ls : List (List Int)) (l cs : List Int) (c : Int) : marksOf F ls l (cs ++ [c]) = F ls l c.toNat (marksOf F ls l cs) := by
  unfold marksOf; rw [List.foldl_append]; rfl
def usersF (ls : List (List Int)) (l : List Int) (t : Nat) (bs : List Bool) : List Bool := markUs ls (bs.set t true) l
theorem marksOf_len {F : List (List Int) → List Int → Nat → List Bool → List Bool} (hF : ∀ ls l t bs, (F ls l t bs).length = bs.length) (ls : List (List Int)) (l : List Int) (cs : List Int) : (marksOf F ls l cs).length = ls.length := by
  have key : ∀ (cs : List Int) (bs : List Bool), (cs.foldl (fun b c => F ls l c.toNat b) bs).length = bs.length := by
    intro cs
    induction cs with
    | nil => intro bs; rfl
    | cons c r ih => intro bs; rw [List.foldl_cons, ih, hF]
  unfold marksOf
  rw [key, List.length_replicate]
theorem usersF_len (ls : List (List Int)) (l : List Int) (t : Nat) (bs : List Bool) : (usersF ls l t bs).length = bs.length := by unfold usersF; rw [markUs_len, List.length_set]
theorem markB_none (n : Nat) (y : Int) : markB (List.replicate n false) y = false := by
  unfold markB
  rw [List.getD_eq_getElem?_getD, List.getElem?_replicate]
  split <;> rfl
theorem rev_ind {motive : List Int → Prop} (h0 : motive []) (hs : ∀ cs c, motive cs → motive (cs ++ [c])) : ∀ cs, motive cs := by
  intro cs
  have : ∀ n (cs : List Int), cs.length = n → motive cs := by
    intro n
    induction n with
    | zero => intro cs h; rw [List.eq_nil_of_length_eq_zero h]; exact h0
    | succ n ih =>
      intro cs h
      have hne : cs ≠ [] := fun e => by rw [e] at h; simp at h
      rw [← List.dropLast_concat_getLast hne]
      exact hs _ _ (ih _ (by rw [List.length_dropLast]; omega))
  exact this _ cs rfl
theorem users_marks {ls : List (List Int)} {l : List Int} (hg : GoodP ls l) : ∀ cs : List Int, (∀ x ∈ cs, 0 ≤ x ∧ x < (ls.length : Int)) → ∀ y ∈ l, (markB (marksOf usersF ls l cs) y = true ↔ Up ls (· ∈ cs) y) := by
  refine rev_ind ?_ ?_
  · intro _ y _
    show markB (List.replicate ls.length false) y = true ↔ _
    rw [markB_none]
    constructor
    · intro h; cases h
    · intro h; exact absurd (h.mono (Q := fun _ => False) (fun x hx => by simp at hx)) Up.none
  · intro cs c ih hc y hy
    have hcr := hc c (by simp)
    have ihc := ih (fun x hx => hc x (by simp [hx]))
    have hlen := marksOf_len usersF_len ls l cs
    obtain ⟨t, rfl⟩ : ∃ t : Nat, c = t := ⟨c.toNat, by omega⟩
    rw [marksOf_snoc, show ((t : Int)).toNat = t by omega, usersF, markUs_up hg (by rw [List.length_set, hlen]) y hy]
    have hset : ∀ z ∈ l, (markB ((marksOf usersF ls l cs).set t true) z = true ↔ z = (t : Int) ∨ Up ls (· ∈ cs) z) := fun z hz => by
      rw [markB_set (by omega) (hg.range z hz).1, ← ihc z hz]
      by_cases h : z = (t : Int)
      · simp [h]
      · rw [if_neg h]; simp [h]
    constructor
    · intro h
      refine Up.twice (P := fun z => z = (t : Int) ∨ Up ls (· ∈ cs) z) (fun x hx => ?_) (Up.congr hg (fun z hz h => (hset z hz).1 h) hy h)
      rcases hx with rfl | hx
      · exact .base (by simp)
      · exact hx.mono (fun z hz => by simp [hz])
    · intro h
      refine Up.congr hg (fun z hz h => (hset z hz).2 ?_) hy h
      rw [List.mem_append, List.mem_singleton] at h
      rcases h with h | h
      · exact .inr (.base h)
      · exact .inl h
theorem users_told {ls : List (List Int)} {l cs : List Int} (hg : GoodP ls l) (hc : ∀ x ∈ cs, 0 ≤ x ∧ x < (ls.length : Int)) : ∀ y ∈ l, markB (marksOf usersF ls l cs) y = hasL (touchS ls cs) y := by
  intro y hy
  rw [Bool.eq_iff_iff, users_marks hg cs hc y hy, hasL, decide_eq_true_iff, mem_touchS]
  exact ⟨fun h => ⟨hg.range y hy, h⟩, fun h => h.2⟩

set_option maxRecDepth 20000 in
set_option maxHeartbeats 8000000 in
theorem markUsersG_any (ls : List (List Int)) (l st : List Int) (t : Nat) (bs : List Bool) (v s : Value) (gm cm : Nat) (w0 w : World) (hst : GraphV w0 v ls l) (hsr : RowV w0 s (I st)) (hb0 : Below w0.heap.size w0 w)
    (hown : w.ownsRow w0.heap.size 4 1 (.slice (some ⟨gm, 0, none⟩) bs.length cm) bs.length (Bo bs)) (hbl : bs.length = ls.length) (_h10 : ls.length ≤ 10) (ht : t < ls.length) (hin : ∀ x ∈ st, 0 ≤ x ∧ x < (ls.length : Int)) (hnd : ∀ k (hk : k < ls.length), ∀ x ∈ ls[k], 0 ≤ x ∧ x < (ls.length : Int)) :
    Calls Tryz.prog 180 #[v, s, .int .i64 (t : Int), .slice (some ⟨gm, 0, none⟩) bs.length cm] w fun e w' => e = .returned (.tuple #[]) ∧ Below w0.heap.size w0 w' ∧ w'.ownsRow w0.heap.size 4 1 (.slice (some ⟨gm, 0, none⟩) bs.length cm) bs.length (Bo (markUs ls (bs.set t true) st)) ∧ w.grownBy w' (some gm) := by
  have HV := Lib.hid hst
  have HS := Lib.hid hsr
  obtain ⟨B, hBB⟩ : ∃ B, B = w0.heap.size := ⟨_, rfl⟩
  rw [← hBB] at hb0 hown
  rw [← hBB]
  have hB : B ≤ w.heap.size := by have := hb0.size; omega
  have HB00 := Lib.hid hb0
  have HBB := Lib.hid hBB
  obtain ⟨nv, ov, rfl, h1, h2⟩ := hst
  obtain ⟨an, cn, rfl, hn1, hn2, hat⟩ := h1.lists
  obtain ⟨ao, co, rfl, ho1, ho2, _⟩ := h2.ints
  obtain ⟨sa, sc, rfl, hs1, hs2, hsat⟩ := hsr.ints
  clear h1 h2 hsr
  unfold maxLen at hn2 ho2 hs2
  have HAT := Lib.hid hat
  have HSA := Lib.hid hsat
  have HIN := Lib.hid hin
  have HND := Lib.hid hnd
  clear hat hsat hin hnd hb0 hBB
  obtain ⟨wa, hwa⟩ : ∃ wa, wa = w.alloc (.cells #[.slice an ls.length cn, .slice ao l.length co] 26) := ⟨_, rfl⟩
  have P0 : Hid (Blk2 wa w.heap.size 26 (.slice an ls.length cn) (.slice ao l.length co)) := by rw [hwa]; exact Blk2.new
  have HA : Hid (Below B w0 wa) := by rw [hwa]; exact HB00.out.alloc hB _
  have hgl := hown.lt gm rfl
  have hBa : B ≤ wa.heap.size := by rw [hwa]; simp; omega
  have hcm : bs.length ≤ cm ∧ cm ≤ 2 ^ 63 - 1 := by
    rcases hown.2 with ⟨h, _⟩ | ⟨g, cap, cur, hv, _, _, hcap, hmx, _⟩
    · injection h with h _ _; cases h
    · unfold maxLen at hmx; injection hv with _ _ h3; omega
  obtain ⟨hcm1, hcm2⟩ := hcm
  have ho1' := hown.alloc (.cells #[.slice an ls.length cn, .slice ao l.length co] 26)
  have htb : t < bs.length := by omega
  have htb2 : (t : Int) < (bs.length : Int) := by omega
  have hfz := ho1'.frozenAt t
  have hcz : (w.alloc (.cells #[.slice an ls.length cn, .slice ao l.length co] 26)).cell? ⟨gm, t, none⟩ = some (.bool bs[t]) := by rw [ho1'.cellAt t (by omega), Bo_get? htb]
  have hst := ho1'.stored t (.bool true)
  rw [Bo_set] at hst
  obtain ⟨w2, hw2⟩ : ∃ w2, w2 = (w.alloc (.cells #[.slice an ls.length cn, .slice ao l.length co] 26)).setCell ⟨gm, t, none⟩ (.bool true) := ⟨_, rfl⟩
  rw [← hw2, ← hwa] at hst
  have HO0 := Lib.hid hst.1
  have HB0 := Lib.hid (HA.out.trans (only_below hst.2 hgl.1 hBa))
  have HG0 : Hid (w.grownBy w2 (some gm)) := grown_trans (below_grown (show Below w.heap.size w wa by rw [hwa]; exact (Below.refl w.heap.size w).alloc (Nat.le_refl _) _)) hst.2
  have HP0 := Lib.hid (P0.out.beside hst.2 (by intro e; have := Option.some.inj e; omega))
  have HW2 := Lib.hid hw2
  have HBL := Lib.hid hbl
  have hg1 : B ≤ gm := hgl.1
  have hg2 : gm < w.heap.size := hgl.2
  have HG2 := Lib.hid hg2
  clear hown ho1' hst hw2 hwa hbl hgl hg2
  go_enter Tryz.func180, Tryz.ntmps180
  go_wp2_with fail
  rw [← HW2.out]
  clear hfz hcz HW2
  have HLN := Lib.hid (fun k => markUs_len ls (st.take k) (bs.set t true))
  go_loopw [17] (fun i wr => ∃ k : Nat, k ≤ st.length ∧ i = .int .i64 (k : Int) ∧ Hid (w.grownBy wr (some gm)) ∧ Hid (Below B w0 wr) ∧ Hid (Blk2 wr w.heap.size 26 (.slice an ls.length cn) (.slice ao l.length co)) ∧ Hid (wr.ownsRow B 4 1 (.slice (some ⟨gm, 0, none⟩) bs.length cm) bs.length (Bo (markUs ls (bs.set t true) (st.take k))))) (fun i _ => st.length - (intOf i).toNat)
  case atStart => exact ⟨0, Nat.zero_le _, rfl, HG0, HB0, HP0, HO0⟩
  case round =>
    clear HB0 HP0 HO0 HG0
    obtain ⟨k, hk, rfl, HG, HB, HP, HO⟩ := hrel
    by_cases hlt : k < st.length
    · obtain ⟨un, hun⟩ : ∃ un : Nat, st[k] = un := ⟨st[k].toNat, by have := HIN.out st[k] (List.getElem_mem hlt); omega⟩
      have hul : un < ls.length := by have := HIN.out st[k] (List.getElem_mem hlt); omega
      have hul2 : (un : Int) < (ls.length : Int) := by omega
      obtain ⟨g, o, hgo, hgg, hcell0⟩ := HSA.out k hlt
      subst hgo
      have hcell : wr.cell? ⟨g, o + k, none⟩ = some (.int .i64 (un : Int)) := by rw [HB.out.cell (p := ⟨g, o + k, none⟩) (by rw [HBB.out]; exact hgg), hcell0, hun]
      obtain ⟨d0, d1⟩ := HP.out.cells
      obtain ⟨g1, o1, a2, c2, hgn, hg1', hcell1, hrow⟩ := HAT.out un hul
      have hcn : wr.cell? ⟨g1, o1 + un, none⟩ = some (.slice a2 ls[un].length c2) := by rw [HB.out.cell (p := ⟨g1, o1 + un, none⟩) (by rw [HBB.out]; exact hg1'), hcell1]
      have hnl : ls[un].length ≤ c2 ∧ c2 ≤ 2 ^ 63 - 1 := by
        obtain ⟨_, _, h, h', h4, _⟩ := hrow.ints
        unfold maxLen at h4
        injection h with _ _ h3; omega
      obtain ⟨hnl, hc2⟩ := hnl
      subst hgn
      have HBK : Hid (markUs ls (bs.set t true) (st.take (k + 1)) = markOne un (markUs ls (bs.set t true) (st.take k)) ls[un]) := by
        show _ = _
        rw [List.take_succ_eq_append_getElem hlt, markUs_snoc, hun, needsAt_get hul]
        rfl
      have hbk : (markUs ls (bs.set t true) (st.take k)).length = bs.length := by rw [markUs_len, List.length_set]
      have HRW : Hid (∀ W, Below B w0 W → ∀ m (hm : m < ls[un].length), ∃ gr or, a2 = some ⟨gr, or, none⟩ ∧ W.cell? ⟨gr, or + m, none⟩ = some (.int .i64 ls[un][m])) := by
        intro W hW m hm
        obtain ⟨_, _, h, _, _, hc⟩ := hrow.ints
        injection h with h1 _ _
        obtain ⟨gr, or, h2, h3, h4⟩ := hc m hm
        exact ⟨gr, or, by rw [h1, h2], by rw [hW.cell (p := ⟨gr, or + m, none⟩) (by rw [HBB.out]; exact h3), h4]⟩
      generalize markUs ls (bs.set t true) (st.take k) = bk at *
      have HBKL := Lib.hid hbk
      clear hcell0 hcell1 hrow hun hbk
      go_wp2_with fail
      clear hcell hcn d0 d1
      go_loopw [27] (fun i wz => ∃ m : Nat, m ≤ ls[un].length ∧ i = .int .i64 (m : Int) ∧ Hid (w.grownBy wz (some gm)) ∧ Hid (Below B w0 wz) ∧ Hid (Blk2 wz w.heap.size 26 (.slice (some ⟨g1, o1, none⟩) ls.length cn) (.slice ao l.length co)) ∧ Hid (wz.ownsRow B 4 1 (.slice (some ⟨gm, 0, none⟩) bs.length cm) bs.length (Bo (markOne un bk (ls[un].take m))))) (fun i _ => ls[un].length - (intOf i).toNat)
      case atStart => exact ⟨0, Nat.zero_le _, rfl, HG, HB, HP, HO⟩
      case round =>
        clear HB HP HO HG
        obtain ⟨m, hm, rfl, HG, HB, HP, HO⟩ := hrel
        by_cases hlt2 : m < ls[un].length
        · have hxm := HND.out un hul ls[un][m] (List.getElem_mem hlt2)
          obtain ⟨kn, hkn⟩ : ∃ kn : Nat, ls[un][m] = kn := ⟨ls[un][m].toNat, by omega⟩
          have hkl : kn < bs.length := by have := HBL.out; omega
          have hul3 : un < bs.length := by have := HBL.out; omega
          have hkl2 : (kn : Int) < (bs.length : Int) := by omega
          have hul4 : (un : Int) < (bs.length : Int) := by omega
          obtain ⟨gr, or, hra, hcr⟩ := HRW.out wr HB.out m hlt2
          subst hra
          rw [hkn] at hcr
          have hln : (markOne un bk (ls[un].take m)).length = bs.length := by rw [markOne_len, HBKL.out]
          have HE : Hid (markOne un bk (ls[un].take (m + 1)) = (markOne un bk (ls[un].take m)).set un (markB (markOne un bk (ls[un].take m)) un || markB (markOne un bk (ls[un].take m)) kn)) := by
            show _ = _
            rw [List.take_succ_eq_append_getElem hlt2, markOne_snoc, hkn]
          generalize markOne un bk (ls[un].take m) = bo at *
          have hcu : wr.cell? ⟨gm, un, none⟩ = some (.bool (markB bo un)) := by rw [HO.out.cellAt un (by omega), Bo_get? (by omega), markB_get (by omega)]
          have hck : wr.cell? ⟨gm, kn, none⟩ = some (.bool (markB bo kn)) := by rw [HO.out.cellAt kn (by omega), Bo_get? (by omega), markB_get (by omega)]
          have hf2 := HO.out.frozenAt un
          have hst := HO.out.stored un (.bool (markB bo un || markB bo kn))
          rw [Bo_set, ← HE.out] at hst
          have HO1 := Lib.hid hst.1
          have HG1 := Lib.hid (grown_trans HG.out hst.2)
          have HB1 := Lib.hid (HB.out.trans (only_below hst.2 hg1 (by rw [HBB.out]; exact HB.out.size)))
          have HP1 := Lib.hid (HP.out.beside hst.2 (by intro e; have := Option.some.inj e; have := HG2.out; omega))
          clear hst HE hln hkn hxm HO HP HB
          generalize markB bo (un : Int) = bu at *
          generalize markB bo (kn : Int) = bn at *
          cases bu with
          | true =>
            go_wp2_with fail
            go_roundw
            case rel => exact ⟨m + 1, by omega, by go_num, HG1, HB1, HP1, HO1⟩
            case measure => simp [intOf]; omega
          | false =>
            rw [Bool.false_or] at HO1 HB1 HP1 HG1
            go_wp2_with fail
            go_roundw
            case rel => exact ⟨m + 1, by omega, by go_num, HG1, HB1, HP1, HO1⟩
            case measure => simp [intOf]; omega
        · rw [List.take_of_length_le (by omega), ← HBK.out] at HO
          go_wp2_with fail
          go_roundw
          case rel => exact ⟨k + 1, by omega, by go_num, HG, HB, HP, HO⟩
          case measure => simp [intOf]; omega
    · rw [List.take_of_length_le (by omega)] at HO
      go_wp2_with fail
      go_end0
      exact ⟨rfl, HB.out, HO.out, HG.out⟩
end Go.Proofs.YtngldlconipnnaaGreatDoor

/- Walks: markedTest at a function value, touchedTest, TouchedBy of the program. -/
namespace Go.Proofs.YtngldlconipnnaaGreatDoor
open Go.RowKit Pth

theorem Blk1.beside {w w' : World} {b t : Nat} {x : Value} {r : Option Nat} (h : Blk1 w b t x) (hg : w.grownBy w' r) (hne : r ≠ some b) : Blk1 w' b t x := (hg.block b (lt_of_block h) (fun e => hne e.symm)).trans h
theorem TestS.congr {w : World} {fv : Value} {D : Int → Prop} {p q : Int → Bool} (h : TestS w fv D p) (he : ∀ x, D x → p x = q x) : TestS w fv D q := by
  obtain ⟨K, cap, h1, h2, h3⟩ := h
  exact ⟨K, cap, h1, h2, fun W hW x hx => by rw [← he x hx]; exact h3 W hW x hx⟩
theorem TestV.congr {w : World} {fv : Value} {D : Int → Prop} {p q : Int → Bool} (h : TestV w fv D p) (he : ∀ x, D x → p x = q x) : TestV w fv D q := by
  obtain ⟨K, cap, h1, h2, h3⟩ := h
  exact ⟨K, cap, h1, h2, fun W hW x hx => by rw [← he x hx]; exact h3 W hW x hx⟩

/-- A function that marks: what it makes of the marks, and that nothing else has turned. -/
def MarkC (K : FuncId) (F : List (List Int) → List Int → Nat → List Bool → List Bool) : Prop :=
  ∀ (ls : List (List Int)) (l : List Int) (t : Nat) (bs : List Bool) (nv ov : Value) (gm cm : Nat) (w0 w : World), GoodG ls l → GraphV w0 (.agg #[nv, ov]) ls l → Below w0.heap.size w0 w →
    w.ownsRow w0.heap.size 4 1 (.slice (some ⟨gm, 0, none⟩) bs.length cm) bs.length (Bo bs) → bs.length = ls.length → t < ls.length →
    Calls Tryz.prog K #[.agg #[nv, ov], ov, .int .i64 (t : Int), .slice (some ⟨gm, 0, none⟩) bs.length cm] w fun e w' => e = .returned (.tuple #[]) ∧ w'.ownsRow w0.heap.size 4 1 (.slice (some ⟨gm, 0, none⟩) bs.length cm) bs.length (Bo (F ls l t bs)) ∧ w.grownBy w' (some gm)
theorem users_mark : MarkC 180 usersF := by
  intro ls l t bs nv ov gm cm w0 w hG hst hb hown hbl ht
  refine (markUsersG_any ls l l t bs _ ov gm cm w0 w hst hst.parts.2 hb hown hbl hG.high ht (fun x hx => by have := hG.tasks x hx; omega) (good_in hG)).mono ?_
  rintro e w' ⟨he, _, ho, hg⟩
  exact ⟨he, ho, hg⟩

set_option maxRecDepth 20000 in
set_option maxHeartbeats 1000000 in
theorem marked1_any (bs : List Bool) (x : Int) (b : Nat) (u : Value) (w : World) (hrow : RowV w u (Bo bs)) (hb : Blk1 w b 27 u) (h0 : 0 ≤ x) (h1 : x < (bs.length : Int)) :
    Calls Tryz.prog 199 #[.int .i64 x, .pointer (some ⟨b, 0, none⟩)] w (BoolS (markB bs x) w) := by
  obtain ⟨n, rfl⟩ : ∃ n : Nat, x = n := ⟨x.toNat, by omega⟩
  have hn : n < bs.length := by omega
  have hc := hb.cell
  obtain ⟨a, cap, rfl, hc1, hc2, hat⟩ := hrow.bools
  obtain ⟨g, o, rfl, hg, hcell⟩ := hat n hn
  rw [← markB_get hn] at hcell
  unfold maxLen at hc2
  clear hrow hb hat
  generalize markB bs (n : Int) = y at *
  go_enter Tryz.func199, Tryz.ntmps199
  go_wp2_with fail
  go_ret
  exact ⟨rfl, rfl⟩

set_option maxRecDepth 20000 in
set_option maxHeartbeats 8000000 in
theorem markedTest_any (K : FuncId) (F : List (List Int) → List Int → Nat → List Bool → List Bool) (hF : MarkC K F) (hent : ∀ args w, (callFunc K args).run Tryz.prog w = .ok (.enter K args) w) (hlen : ∀ ls l t bs, (F ls l t bs).length = bs.length)
    (ls : List (List Int)) (l cs : List Int) (v u : Value) (w : World) (hst : GraphV w v ls l) (hrow : RowV w u (I cs)) (hG : GoodG ls l) (hc : ∀ x ∈ cs, 0 ≤ x ∧ x < (ls.length : Int)) :
    Calls Tryz.prog 179 #[v, u, .func (.func K) #[] #[]] w (TestSPost (· ∈ l) (markB (marksOf F ls l cs)) w) := by
  have HV := Lib.hid hst
  obtain ⟨nv, ov, rfl, h1, h2⟩ := hst
  obtain ⟨an, cn, rfl, hn1, hn2, hat⟩ := h1.lists
  obtain ⟨ao, co, rfl, ho1, ho2, hao⟩ := h2.ints
  clear h1 h2
  unfold maxLen at hn2 ho2
  have HAT := Lib.hid hat
  have HAO := Lib.hid hao
  clear hat hao
  obtain ⟨wa, hwa⟩ : ∃ wa, wa = w.alloc (.cells #[.slice an ls.length cn, .slice ao l.length co] 26) := ⟨_, rfl⟩
  have P0 : Hid (Blk2 wa w.heap.size 26 (.slice an ls.length cn) (.slice ao l.length co)) := by rw [hwa]; exact Blk2.new
  have HA : Hid (Below w.heap.size w wa) := by rw [hwa]; exact (Below.refl w.heap.size w).alloc (Nat.le_refl _) _
  have hsa : wa.heap.size = w.heap.size + 1 := by rw [hwa]; simp
  have HSA := Lib.hid hsa
  have hsz : w.heap.size < wa.heap.size := by omega
  have HWA := Lib.hid hwa
  obtain ⟨c0, c1⟩ := P0.out.cells
  have HU := Lib.hid hrow
  obtain ⟨ua, uc, rfl, hu1, hu2, hau⟩ := hrow.ints
  have HAU := Lib.hid hau
  clear hrow hau
  unfold maxLen at hu2
  have hmf : ∀ (fn : Fn) (first cap : Array Value) (w : World), (Instr.makeFunc fn first cap).run Tryz.prog w = .ok (.func fn first cap) w := fun _ _ _ _ => rfl
  have h10 := hG.high
  have HGG := Lib.hid hG
  have HC := Lib.hid hc
  have HML := Lib.hid (fun k => marksOf_len hlen ls l (cs.take k))
  have HF := Lib.hid hF
  have HSN := Lib.hid (fun k (hk : k < cs.length) => show marksOf F ls l (cs.take (k + 1)) = F ls l cs[k].toNat (marksOf F ls l (cs.take k)) by rw [List.take_succ_eq_append_getElem hk, marksOf_snoc])
  obtain ⟨csB, hcB, mB⟩ := make_alloc elemB rfl ls.length (by omega)
  have hH := (own_of_heap (w := wa.alloc (.cells csB 4)) (B := wa.heap.size) (heap_alloc_new wa _) (Nat.le_refl _) hcB (by simp) (show ls.length ≤ maxLen by unfold maxLen; omega))
  obtain ⟨w2, hw2⟩ : ∃ w2, w2 = wa.alloc (.cells csB 4) := ⟨_, rfl⟩
  obtain ⟨w3, hw3⟩ : ∃ w3, w3 = w2.alloc (.cells #[.slice (some ⟨w.heap.size + 1, 0, none⟩) ls.length ls.length] 27) := ⟨_, rfl⟩
  have hs2 : w2.heap.size = w.heap.size + 2 := by rw [hw2, World.size_alloc, hsa]
  have hs3 : w3.heap.size = w.heap.size + 3 := by rw [hw3, World.size_alloc, hs2]
  have hb2 : Below wa.heap.size wa w2 := by rw [hw2]; exact (Below.refl _ wa).alloc (Nat.le_refl _) _
  have hb3 : Below w2.heap.size w2 w3 := by rw [hw3]; exact (Below.refl _ w2).alloc (Nat.le_refl _) _
  rw [← hw2, hsa] at hH
  have HO0 : Hid (w3.ownsRow w.heap.size 4 1 (.slice (some ⟨w.heap.size + 1, 0, none⟩) ls.length ls.length) ls.length (Bo (List.replicate ls.length false))) := by
    rw [Bo_rep]
    exact own_base (own_below hH hb3) (by omega)
  have HX0 : Hid (Blk1 w3 (w.heap.size + 2) 27 (.slice (some ⟨w.heap.size + 1, 0, none⟩) ls.length ls.length)) := by rw [hw3, ← hs2]; exact Blk1.new
  have HP0 := Lib.hid ((P0.out.below hb2 hsz).below hb3 (by omega))
  have HB0 := Lib.hid (bth HA.out (bth hb2 hb3 (Nat.le_refl _)) (Nat.le_refl _))
  have HW3 : Hid (w3 = ((w.alloc (.cells #[.slice an ls.length cn, .slice ao l.length co] 26)).alloc (.cells csB 4)).alloc (.cells #[.slice (some ⟨w.heap.size + 1, 0, none⟩) ls.length ls.length] 27)) := by show _ = _; rw [hw3, hw2, hwa]
  rw [hwa] at c0
  clear hwa hsa hw2 hw3 hs2 hs3 hb2 hb3 hH hG hc hF hcB hlen c1 HSA
  go_enter Tryz.func179, Tryz.ntmps179
  go_wp2_with fail
  rw [← HW3.out]
  clear c0 mB
  go_loopw [16] (fun i wr => ∃ k : Nat, k ≤ cs.length ∧ i = .int .i64 (k : Int) ∧ Hid (wr.ownsRow w.heap.size 4 1 (.slice (some ⟨w.heap.size + 1, 0, none⟩) ls.length ls.length) ls.length (Bo (marksOf F ls l (cs.take k)))) ∧ Hid (Blk1 wr (w.heap.size + 2) 27 (.slice (some ⟨w.heap.size + 1, 0, none⟩) ls.length ls.length)) ∧ Hid (Blk2 wr w.heap.size 26 (.slice an ls.length cn) (.slice ao l.length co)) ∧ Hid (Below w.heap.size w wr)) (fun i _ => cs.length - (intOf i).toNat)
  case atStart => exact ⟨0, Nat.zero_le _, rfl, HO0, HX0, HP0, HB0⟩
  case round =>
    clear HO0 HX0 HP0 HB0
    obtain ⟨k, hk, rfl, HO, HX, HP, HB⟩ := hrel
    by_cases hlt : k < cs.length
    · obtain ⟨g, o, hgo, hg, hcell0⟩ := HAU.out k hlt
      subst hgo
      have hxr := HC.out cs[k] (List.getElem_mem hlt)
      obtain ⟨t, ht⟩ : ∃ t : Nat, cs[k] = t := ⟨cs[k].toNat, by omega⟩
      have htl : t < ls.length := by omega
      have hcell : wr.cell? ⟨g, o + k, none⟩ = some (.int .i64 (t : Int)) := by rw [HB.out.cell (p := ⟨g, o + k, none⟩) hg, hcell0, ht]
      obtain ⟨d0, d1⟩ := HP.out.cells
      have d2 := HX.out.cell
      have hml := HML.out k
      have HSK : Hid (marksOf F ls l (cs.take (k + 1)) = F ls l t (marksOf F ls l (cs.take k))) := by
        show _ = _
        rw [HSN.out k hlt, ht, show ((t : Int)).toNat = t by omega]
      generalize marksOf F ls l (cs.take k) = bk at *
      have hCC := HF.out ls l t bk (.slice an ls.length cn) (.slice ao l.length co) (w.heap.size + 1) ls.length w wr HGG.out HV.out HB.out (by rw [hml]; exact HO.out) hml htl
      rw [hml] at hCC
      have HCC := Lib.hid hCC
      clear hCC hcell0 hxr ht hml
      go_wp2_with fail
      refine HCC.out.mono ?_
      rintro e w8 ⟨rfl, ho8, hg8⟩
      have HO8 := Lib.hid ho8
      rw [← HSK.out] at HO8
      have HX8 := Lib.hid (HX.out.beside hg8 (by intro e; have := Option.some.inj e; omega))
      have HP8 := Lib.hid (HP.out.beside hg8 (by intro e; have := Option.some.inj e; omega))
      have HB8 := Lib.hid (HB.out.trans (only_below hg8 (by omega) HB.out.size))
      clear ho8 hg8 d0 d1 d2 hcell
      go_wp2_with fail
      go_roundw
      case rel => exact ⟨k + 1, by omega, by go_num, HO8, HX8, HP8, HB8⟩
      case measure => simp [intOf]; omega
    · have hml := HML.out k
      rw [List.take_of_length_le (by omega)] at HO hml
      have HM := Lib.hid hml
      have HGP := Lib.hid HGG.out.toP
      clear hml
      go_wp2_with fail
      go_ret
      refine ⟨_, rfl, ⟨199, #[.pointer (some ⟨w.heap.size + 2, 0, none⟩)], rfl, enters_of Tryz.func199 (by kernel_rfl) rfl, fun W hW x hx => ?_⟩, HB.out⟩
      have hxr := HGP.out.range x hx
      exact marked1_any (marksOf F ls l cs) x (w.heap.size + 2) _ W (RowV.of_own (own_below HO.out hW)) (HX.out.below hW (lt_of_block HX.out)) hxr.1 (by rw [HM.out]; exact hxr.2)

set_option maxRecDepth 20000 in
set_option maxHeartbeats 1000000 in
theorem touchedTest_any (ls : List (List Int)) (l cs : List Int) (v u : Value) (w : World) (hst : GraphV w v ls l) (hrow : RowV w u (I cs)) (hG : GoodG ls l) (hc : ∀ x ∈ cs, 0 ≤ x ∧ x < (ls.length : Int)) :
    Calls Tryz.prog 142 #[v, u] w (TestSPost (· ∈ l) (hasL (touchS ls cs)) w) := by
  have HV := Lib.hid hst
  obtain ⟨nv, ov, rfl, h1, h2⟩ := hst
  obtain ⟨an, cn, rfl, hn1, hn2, hat⟩ := h1.lists
  obtain ⟨ao, co, rfl, ho1, ho2, hao⟩ := h2.ints
  clear h1 h2
  unfold maxLen at hn2 ho2
  have HAT := Lib.hid hat
  have HAO := Lib.hid hao
  clear hat hao
  obtain ⟨wa, hwa⟩ : ∃ wa, wa = w.alloc (.cells #[.slice an ls.length cn, .slice ao l.length co] 26) := ⟨_, rfl⟩
  have P0 : Hid (Blk2 wa w.heap.size 26 (.slice an ls.length cn) (.slice ao l.length co)) := by rw [hwa]; exact Blk2.new
  have HA : Hid (Below w.heap.size w wa) := by rw [hwa]; exact (Below.refl w.heap.size w).alloc (Nat.le_refl _) _
  have hsa : wa.heap.size = w.heap.size + 1 := by rw [hwa]; simp
  have HSA := Lib.hid hsa
  have hsz : w.heap.size < wa.heap.size := by omega
  have HWA := Lib.hid hwa
  obtain ⟨c0, c1⟩ := P0.out.cells
  have HM := Lib.hid (markedTest_any 180 usersF users_mark (enters_of Tryz.func180 (by kernel_rfl) rfl) usersF_len ls l cs _ u wa (HV.out.below HA.out) (hrow.below HA.out) hG hc)
  have HTD := Lib.hid (users_told hG.toP hc)
  obtain ⟨ua, uc, rfl, hu1, hu2, _⟩ := hrow.ints
  clear hwa hsa hrow hG hc
  go_enter Tryz.func142, Tryz.ntmps142
  go_wp2_with fail
  rw [← HWA.out]
  refine HM.out.mono ?_
  rintro e w1 ⟨fv, rfl, ht, hb1⟩
  have HT := Lib.hid (ht.congr HTD.out)
  have HB1 := Lib.hid (bth HA.out hb1 (Nat.le_refl _))
  clear ht hb1 c0 c1
  go_wp2_with fail
  go_ret
  exact ⟨_, rfl, HT.out, HB1.out⟩

set_option maxRecDepth 20000 in
set_option maxHeartbeats 8000000 in
theorem implTouched_any (ls : List (List Int)) (l cs : List Int) (v ucs : Value) (w : World) (hst : GraphV w v ls l) (hcs : RowV w ucs (I cs)) :
    Calls Tryz.prog 84 #[v, ucs] w (ListOk (touchA ls l cs) (someG ls l cs) w) := by
  have HV := Lib.hid hst
  obtain ⟨nv, ov, rfl, h1, h2⟩ := hst
  obtain ⟨an, cn, rfl, hn1, hn2, hat⟩ := h1.lists
  obtain ⟨ao, co, rfl, ho1, ho2, hao⟩ := h2.ints
  clear h1 h2
  unfold maxLen at hn2 ho2
  have HAT := Lib.hid hat
  have HAO := Lib.hid hao
  clear hat hao
  obtain ⟨wa, hwa⟩ : ∃ wa, wa = w.alloc (.cells #[.slice an ls.length cn, .slice ao l.length co] 26) := ⟨_, rfl⟩
  have P0 : Hid (Blk2 wa w.heap.size 26 (.slice an ls.length cn) (.slice ao l.length co)) := by rw [hwa]; exact Blk2.new
  have HA : Hid (Below w.heap.size w wa) := by rw [hwa]; exact (Below.refl w.heap.size w).alloc (Nat.le_refl _) _
  have hsa : wa.heap.size = w.heap.size + 1 := by rw [hwa]; simp
  have HSA := Lib.hid hsa
  have hsz : w.heap.size < wa.heap.size := by omega
  have HWA := Lib.hid hwa
  obtain ⟨c0, c1⟩ := P0.out.cells
  have HUcs := Lib.hid hcs
  obtain ⟨xacs, xccs, rfl, hxlcs, hxmcs, _⟩ := hcs.ints
  clear hcs
  unfold maxLen at hxmcs
  have HGD := Lib.hid (fun W (h : Below wa.heap.size wa W) => implGood_any ls l _ W (HV.out.below (bth HA.out h (Nat.le_refl _))))
  have HTcs := Lib.hid (fun W (h : Below wa.heap.size wa W) => areTasks_any ls l cs _ _ W (HV.out.below (bth HA.out h (Nat.le_refl _))) (HUcs.out.below (bth HA.out h (Nat.le_refl _))))
  have HEQ : Hid ((goodG ls l && riseB 0 ((ls.length : Int) - 1) cs) = someG ls l cs) := some_eq _ _ _
  have HNo : Hid ((goodG ls l && riseB 0 ((ls.length : Int) - 1) cs) = false → touchA ls l cs = [] ∧ someG ls l cs = false) := fun h => by
    rw [HEQ.out] at h
    exact ⟨touchA_no h, h⟩
  have HYes : Hid ((goodG ls l && riseB 0 ((ls.length : Int) - 1) cs) = true → touchA ls l cs = touchA_v ls l cs ∧ someG ls l cs = true ∧ GoodG ls l ∧ (Rise cs ∧ ∀ x ∈ cs, 0 ≤ x ∧ x < (ls.length : Int))) := fun h => by
    rw [HEQ.out] at h
    exact ⟨touchA_yes h, h, some_yes h⟩
  clear HEQ
  generalize someG ls l cs = bb at *
  generalize touchA ls l cs = R at *
  generalize goodG ls l = b0 at *
  generalize riseB 0 ((ls.length : Int) - 1) cs = bcs at *
  clear hwa
  go_enter Tryz.func84, Tryz.ntmps84
  go_wp2_with fail
  rw [← HWA.out]
  refine (HGD.out wa (Below.refl _ _)).mono ?_
  rintro e w1 ⟨rfl, hb1⟩
  have K1 := Lib.hid hb1
  obtain ⟨p1, q1⟩ := (P0.out.below K1.out hsz).cells
  clear hb1 c0 c1
  cases b0 with
  | false =>
    have hR := HNo.out rfl
    obtain ⟨rfl, rfl⟩ := hR
    clear HNo HYes HGD HTcs
    go_wp2_with fail
    go_ret2
    exact ⟨_, rfl, none_ownZ _ _ _, bth HA.out K1.out (Nat.le_refl _)⟩
  | true =>
    go_wp2_with fail
    refine (HTcs.out w1 K1.out).mono ?_
    rintro e w2 ⟨rfl, hb2⟩
    have K2 := Lib.hid (bth K1.out hb2 (Nat.le_refl _))
    obtain ⟨p2, q2⟩ := (P0.out.below K2.out hsz).cells
    clear hb2 p1 q1
    cases bcs with
    | false =>
      have hR := HNo.out rfl
      obtain ⟨rfl, rfl⟩ := hR
      clear HNo HYes HGD HTcs
      go_wp2_with fail
      go_ret2
      exact ⟨_, rfl, none_ownZ _ _ _, bth HA.out K2.out (Nat.le_refl _)⟩
    | true =>
      obtain ⟨hR, rfl, hG, hccs⟩ := HYes.out rfl
      clear HNo HYes HGD HTcs
      have HKW := Lib.hid (bth HA.out K2.out (Nat.le_refl _))
      have PW := Lib.hid (P0.out.below K2.out hsz)
      have hszW := Nat.lt_of_lt_of_le hsz K2.out.size
      have HR : Hid (R = touchS ls cs) := hR
      have HGP := Lib.hid hG.toP
      have HPI : Hid ((upto ls.length).filter (hasL (touchS ls cs)) = touchS ls cs) := by
        show _ = _
        refine rise_ext (filter_rise (upto_rise _)) (touchS_rise _ _) (fun x => ?_)
        rw [List.mem_filter, mem_upto, hasL, decide_eq_true_iff]
        exact ⟨fun h => h.2, fun h => ⟨(mem_touchS.1 h).1, h⟩⟩
      have HTS := Lib.hid (fun W (h : Below w.heap.size w W) => touchedTest_any ls l cs _ _ W (HV.out.below h) (HUcs.out.below h) hG hccs.2)
      have PD : Hid (Blk2 w2.drew w.heap.size 26 (.slice an ls.length cn) (.slice ao l.length co)) := PW.out
      have ks := PD.out.cells
      have hszD : w.heap.size < w2.drew.heap.size := hszW
      have HKD : Hid (Below w.heap.size w w2.drew) := Below.drew HKW.out
      clear hR hG hccs p2 q2
      go_wp2_with fail
      go_region_held3 (fun w' => w'.cell? ⟨w.heap.size, 0, none⟩ = some (.slice an ls.length cn) ∧ w'.cell? ⟨w.heap.size, 1, none⟩ = some (.slice ao l.length co)) (first | exact ks)
        (first
          | (go_at_call 142; refine (HTS.out _ (by exact HKD.out)).mono ?_; rintro e w7 ⟨fv, rfl, ht7, hb7⟩
             have ks := (PD.out.below hb7 hszD).cells
             have HT7 := Lib.hid ht7.toV
             have K7 := Lib.hid (bth HKD.out hb7 (Nat.le_refl _))
             have C7 := Lib.hid hb7
             clear ht7 hb7)
          | (go_at_call 141; refine (rising_any ls l (hasL (touchS ls cs)) _ _ _ (HV.out.below K7.out) HT7.out HGP.out).mono ?_; rintro e w8 ⟨v8, rfl, ho8, hb8⟩
             have HO8 := Lib.hid ho8
             have K8 := Lib.hid (bth K7.out hb8 (Nat.le_refl _))
             have ks := (PD.out.below (bth C7.out hb8 (Nat.le_refl _)) hszD).cells
             clear ho8 hb8))
      all_goals
        rw [HPI.out, ← HR.out] at HO8
        go_wp2_with fail
        go_ret2
        exact ⟨_, rfl, own_base HO8.out K7.out.size, K8.out⟩
end Go.Proofs.YtngldlconipnnaaGreatDoor
