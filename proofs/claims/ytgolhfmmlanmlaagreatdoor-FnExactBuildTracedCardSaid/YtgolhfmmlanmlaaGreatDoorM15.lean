/- Texts of one claim, joined in their order. -/
import Derived.Test.YtgolhfmmlanmlaaGreatDoorM11
import Derived.Test.YtgolhfmmlanmlaaGreatDoorM14

/- Walks: a build with traces, of the reference. -/
namespace Go.Proofs.YtgolhfmmlanmlaaGreatDoor
open Go.RowKit Pth

theorem results_tmp4 {fn : Func} {t u v x : Tmp} (h : fn.results = #[.tmp t, .tmp u, .tmp v, .tmp x]) (tmps : Array Value) (P : Program) (w : World) :
    (results fn tmps).run P w = .ok (.tuple #[tmps.getD t undef, tmps.getD u undef, tmps.getD v undef, tmps.getD x undef]) w := by
  simp [results, h]
/-- Results and traces of the call's own, a number and a yes-or-no. -/
def TracedP (s : List ResT × List TrT × Nat) (G : Bool) (w : World) (e : Ending) (w' : World) : Prop :=
  ∃ v1 v2 sl, e = .returned (.tuple #[v1, v2, .int .i64 (s.2.2 : Int), .bool G]) ∧ w'.ownsRow w.heap.size 75 2 v1 s.1.length (RC s.1) ∧ OwnT w.heap.size w' v2 sl s.2.1 ∧ Below w.heap.size w w'
/-- A store into a row of results keeps traces. -/
theorem OwnT.beside {B B' n : Nat} {w w' : World} {v u : Value} {sl : List Value} {l : List TrT} {xs : List Value} (h : OwnT B w v sl l) (ho : w.ownsRow B' 75 2 u n xs) (hg : w.grownBy w' u.ownBlock) : OwnT B w' v sl l :=
  ⟨h.1, h.2.1.other ho (by decide) hg, h.2.2.grownA (OwnA.of_own ho) (by decide) hg⟩
theorem ListsS.beside {B B' n : Nat} {w w' : World} {u : Value} {L : List (Value × List (List UInt8))} {xs : List Value} (h : ListsS B w L) (ho : w.ownsRow B' 75 2 u n xs) (hg : w.grownBy w' u.ownBlock) : ListsS B w' L := h.grownA (OwnA.of_own ho) (by decide) hg
section
variable {ls : List (List Int)} {bs : List Bool} {rs : List (List OpT)} {ts : List (List UInt8)} {M : List ResT} {T : List TrT} {n k : Nat}
theorem traced_src (h : bs.getD k false = true) : tracedS ls bs rs ts (M, T, n) k = (M.set k (ts.getD k [], 0), T, n) := by unfold tracedS; rw [if_pos h]
theorem made_blocked (hb : (firstL M (ls.getD k [])).2 = true) : makeM ls rs M k = ([], 2) := by unfold makeM madeR; rw [hb]; rfl
theorem traced_blk (h : bs.getD k false = false) (hb : (firstL M (ls.getD k [])).2 = true) : tracedS ls bs rs ts (M, T, n) k = (M.set k ([], 2), T, n) := by
  unfold tracedS; rw [if_neg (by rw [h]; decide), if_pos hb]
theorem traced_old (h : bs.getD k false = false) (hb : (firstL M (ls.getD k [])).2 = false) {j : Nat} (hf : findT T (k : Int) (bodiesL M (ls.getD k [])) = some j) (hj : j < T.length) : tracedS ls bs rs ts (M, T, n) k = (M.set k T[j].2.2, T, n) := by
  unfold tracedS foundT; rw [if_neg (by rw [h]; decide), if_neg (by rw [hb]; decide), hf]; simp only [Option.map_some]; rw [getD_at _ hj]
theorem traced_new (h : bs.getD k false = false) (hb : (firstL M (ls.getD k [])).2 = false) (hf : findT T (k : Int) (bodiesL M (ls.getD k [])) = none) :
    tracedS ls bs rs ts (M, T, n) k = (M.set k (makeM ls rs M k), noteL T ((k : Int), bodiesL M (ls.getD k []), makeM ls rs M k), n + 1) := by
  unfold tracedS foundT; rw [if_neg (by rw [h]; decide), if_neg (by rw [hb]; decide), hf]; rfl
end

set_option maxRecDepth 20000 in
set_option maxHeartbeats 8000000 in
theorem specTraced_yes (ls : List (List Int)) (l : List Int) (bs : List Bool) (rs : List (List OpT)) (T : List TrT) (ts : List (List UInt8)) (v u x : Value) (w : World) (hp : PlanV w v ls l bs rs) (hT : RowT w u T) (hts : RowV w x (S ts)) (hx : ∀ l ∈ rs, ∀ f ∈ l, f.2.2.length ≤ maxLen) (hxT : ∀ t ∈ T, HeldT maxLen t) (hxx : ∀ x ∈ ts, x.length ≤ maxLen) (hgt : goodT ls l bs rs T = true) (hsrc : srcA ls l bs rs ts = true) :
    Calls Tryz.prog 9 #[v, u, x] w (TracedP (tracedM ls l bs rs T ts) true w) := by
  have hpl := (src_parts hsrc).1
  have htb := (src_parts hsrc).2.1
  have hbl := (plan_parts hpl).2.1
  have hG := (plan_parts hpl).1
  have hlo := hG.same
  have hhi := hG.high
  have hxt := src_len hsrc
  have HV := Lib.hid hp
  obtain ⟨nv, ov, sv, rv, rfl, h1, h2, h3, h4⟩ := hp
  obtain ⟨as0, cs, rfl, hs1, hs2, hats⟩ := h3.boolsW
  obtain ⟨an, cn, rfl, hn1, hn2, hatn⟩ := h1.lists
  obtain ⟨ao, co, rfl, ho1, ho2, hato⟩ := h2.ints
  obtain ⟨ar, cr, rfl, hr1, hr2, hatr⟩ := h4.lists
  clear h1 h2 h3 h4
  unfold maxLen at hs2 hn2 ho2 hr2
  obtain ⟨wa, hwa⟩ : ∃ wa, wa = w.alloc (.cells #[.slice an ls.length cn, .slice ao l.length co, .slice as0 bs.length cs, .slice ar rs.length cr] 42) := ⟨_, rfl⟩
  have hsz : w.heap.size < wa.heap.size := by rw [hwa]; simp
  have P0 : Hid (Blk4 wa w.heap.size 42 (.slice an ls.length cn) (.slice ao l.length co) (.slice as0 bs.length cs) (.slice ar rs.length cr)) := by rw [hwa]; exact Blk4.new
  have HA : Hid (Below w.heap.size w wa) := by rw [hwa]; exact (Below.refl w.heap.size w).alloc (Nat.le_refl _) _
  have HWA : Hid (w.alloc (.cells #[.slice an ls.length cn, .slice ao l.length co, .slice as0 bs.length cs, .slice ar rs.length cr] 42) = wa) := by rw [hwa]; rfl
  have HVW : Hid (∀ W, Below wa.heap.size wa W → PlanV W (.agg #[.slice an ls.length cn, .slice ao l.length co, .slice as0 bs.length cs, .slice ar rs.length cr]) ls l bs rs) := fun W h => HV.out.below (bth HA.out h (Nat.le_refl _))
  clear hwa
  have HTR := Lib.hid hT
  obtain ⟨au, cu, rfl, hu1, hu2, _⟩ := hT.traces
  have HT := Lib.hid hts
  obtain ⟨at0, ct, rfl, ht1, ht2, _⟩ := hts.texts
  unfold maxLen at hu2 ht2
  have HATO := Lib.hid hato
  have HATS := Lib.hid hats
  have HIN : Hid (∀ k (hk : k < l.length), 0 ≤ l[k] ∧ l[k] < (ls.length : Int)) := fun k hk => by have := hG.tasks _ (List.getElem_mem hk); omega
  obtain ⟨MK, hMK⟩ : ∃ MK : Nat → List ResT × List TrT × Nat, MK = fun k => tracedL ls bs rs ts (l.take k) (List.replicate bs.length noRes, T, 0) := ⟨_, rfl⟩
  have HON : Hid (∀ k, OnWay ls bs (MK k)) := fun k => by
    rw [hMK]
    exact traced_way hpl hxt _ (fun j hj => by have := hG.tasks _ (List.mem_of_mem_take hj); omega) (onWay_start hgt)
  have HMN : Hid (∀ k (hk : k < l.length), MK (k + 1) = tracedS ls bs rs ts (MK k) l[k].toNat) := fun k hk => by rw [hMK]; exact traced_next ls bs rs ts hk _
  have HNL : Hid (∀ k, (MK k).2.2 ≤ k) := fun k => by
    rw [hMK]
    have := traced_runs (ls := ls) (bs := bs) (rs := rs) (ts := ts) (l.take k) (List.replicate bs.length noRes, T, 0)
    rw [List.length_take] at this
    simp only at this ⊢
    omega
  have HM0 : Hid (MK 0 = (List.replicate bs.length noRes, T, 0)) := by rw [hMK]; rfl
  have HMZ : Hid (MK l.length = tracedM ls l bs rs T ts) := by rw [hMK]; show _ = _; simp only [List.take_length]; rfl
  have HCG := Lib.hid (specGood9_b hgt _ _ wa (HV.out.below HA.out) (HTR.out.below HA.out) hx hxT)
  have HCS := Lib.hid (fun W (h : Below w.heap.size w W) => specSrc_any ls l bs rs ts _ _ W (HV.out.below h) (HT.out.below h) hx hxx)
  rw [hsrc] at HCS
  have HC1 := Lib.hid (fun W (h : Below w.heap.size w W) => l9Own_any T _ W (HTR.out.below h) (short_of (goodT_all hgt)) (by have := (goodT_parts hgt).2.1; omega))
  have HBL := Lib.hid hbl
  have HG10 : Hid (l.length ≤ 10) := by show _ ≤ _; omega
  have HXT := Lib.hid hxt
  have HTB := Lib.hid htb
  have HPL := Lib.hid hpl
  have hbn : bs.length ≤ 10 := by omega
  have hts2 : (ts.length : Int) = (bs.length : Int) := by omega
  obtain ⟨c0, c1, c2, c3⟩ := P0.out.cells
  clear hMK hG hlo hhi hxt hsrc hbl htb hato hats hT hts hx hxT hxx hgt hatn hatr
  go_enter Tryz.func9, Tryz.ntmps9
  go_wp2_with fail
  rw [HWA.out]
  refine HCG.out.mono ?_
  rintro e w1 ⟨rfl, hb1⟩
  have HW1 := Lib.hid (bth HA.out hb1 (Nat.le_refl _))
  have K1 := Lib.hid hb1
  clear hb1 c0 c1 c2 c3
  obtain ⟨c0, c1, c2, c3⟩ := (P0.out.below K1.out hsz).cells
  go_wp2_with fail
  refine (HCS.out w1 HW1.out).mono ?_
  rintro e w2 ⟨rfl, hb2⟩
  have HW2 := Lib.hid (bth HW1.out hb2 (Nat.le_refl _))
  have K2 := Lib.hid (bth K1.out hb2 (Nat.le_refl _))
  clear hb2 c0 c1 c2 c3 HCG HCS
  go_wp2_with fail
  refine (HC1.out w2 HW2.out).mono ?_
  rintro e w3 ⟨v3, s3, rfl, hN3, hb3⟩
  have HW3 := Lib.hid (bth HW2.out hb3 (Nat.le_refl _))
  have K3 := Lib.hid (bth K2.out hb3 (Nat.le_refl _))
  have HN3 := Lib.hid (hN3.base K2.out.size)
  clear hb3 hN3 HC1
  obtain ⟨w4, hmk, hown4, hb4⟩ := make_rowR bs.length w3 (by omega)
  have HR4 := Lib.hid (own_baseG hown4 K3.out.size)
  have HN4 := Lib.hid (HN3.out.below hb4)
  have K4 := Lib.hid (bth K3.out hb4 (Nat.le_refl _))
  obtain ⟨gq, hgq⟩ : ∃ gq, gq = w3.heap.size := ⟨_, rfl⟩
  rw [← hgq] at hmk HR4
  obtain ⟨c0, c1, c2, c3⟩ := (P0.out.below K4.out hsz).cells
  clear hb4 hown4 HN3 hgq
  go_wp2_with fail
  clear hmk hts2 c0 c1 c2 c3
  go_loopw [10, 12, 37] (fun q n i wr => ∃ (k : Nat) (sl : List Value), k ≤ l.length ∧ i = .int .i64 k ∧ n = .int .i64 ((MK k).2.2 : Int) ∧ Hid (Below wa.heap.size wa wr) ∧ Hid (wr.ownsRow wa.heap.size 75 2 (.slice (some ⟨gq, 0, none⟩) bs.length bs.length) bs.length (RC (MK k).1)) ∧ Hid (OwnT wa.heap.size wr q sl (MK k).2.1)) (fun _ _ i _ => l.length - (intOf i).toNat)
  case atStart => exact ⟨0, _, Nat.zero_le _, rfl, by rw [HM0.out]; rfl, K4, by rw [HM0.out]; exact HR4, by rw [HM0.out]; exact HN4⟩
  case round =>
    clear HR4 HN4 K4
    obtain ⟨k, sl, hk, rfl, rfl, HB, HN, HQ⟩ := hrel
    have HBW := Lib.hid (bth HA.out HB.out (Nat.le_refl _))
    by_cases hlt : k < l.length
    · obtain ⟨g, o, rfl, hg, hcell0⟩ := HATO.out k hlt
      have hcell := (HBW.out.cell (p := ⟨g, o + k, none⟩) hg).trans hcell0
      obtain ⟨hx0, hx1⟩ := HIN.out k hlt
      have hnext := HMN.out k hlt
      obtain ⟨y, hy⟩ : ∃ y : Nat, l[k] = y := ⟨(l[k]).toNat, by omega⟩
      have hyl : y < ls.length := by omega
      have hyb : y < bs.length := by have := HBL.out; omega
      rw [hy, Int.toNat_natCast] at hnext
      rw [hy] at hcell
      obtain ⟨hml, hms, hma, hmf⟩ := HON.out k
      have hnl := HNL.out k
      have HNX := Lib.hid hnext
      have hll := HG10.out
      clear hcell0 hx0 hx1 hy HATO HIN HMN hnext HNL HON
      obtain ⟨gs, os, rfl, hgs, hcs⟩ := HATS.out y hyb
      have hsc := (HBW.out.cell (p := ⟨gs, os + y, none⟩) hgs).trans hcs
      obtain ⟨_, _, hev, _, _, hatt⟩ := HT.out.texts
      injection hev with hea _ hec
      subst hea hec
      have hyt : y < ts.length := by have := HTB.out; omega
      obtain ⟨gt, ot, rfl, hgt, hct⟩ := hatt y hyt
      have htc := (HBW.out.cell (p := ⟨gt, ot + y, none⟩) hgt).trans hct
      have hyz : (y : Int) < (bs.length : Int) := by omega
      have hyt2 : (y : Int) < (ts.length : Int) := by omega
      obtain ⟨c0, c1, c2, c3⟩ := (P0.out.below HB.out hsz).cells
      generalize hS : MK k = s at *
      obtain ⟨M, TT, n⟩ := s
      simp only at hml hms hma hmf hnl HN HQ ⊢
      have hgd : y < M.length := by omega
      have hn2 : n ≤ 1000 := by omega
      have hgb := getD_at false hyb
      have hgt' := getD_at ([] : List UInt8) hyt
      have hgl := getD_at ([] : List Int) hyl
      obtain ⟨d0, d1, f0, f1⟩ := own_atR HN.out hml hgd
      clear hgs hcs hatt hgt hct HATS hS
      rcases hb : bs[y] with _ | _
      · rw [hb] at hsc hgb
        have HMKC := Lib.hid (specMake_any ls l bs rs M y _ _ wr (HV.out.below HBW.out) (RowR.of_ownL HN.out hml) HPL.out hml hyl hms)
        rcases hf : (firstL M (ls.getD y [])).2 with _ | _
        · have HMO := Lib.hid (makeM_ok ls rs M y hf)
          have HNT := Lib.hid (new_trace (ls := ls) (l := l) (bs := bs) (rs := rs) HPL.out hms hyl hgb hf)
          have HIC := Lib.hid (fun W (h : Below w.heap.size w W) (hr : RowR W (.slice (some ⟨gq, 0, none⟩) bs.length bs.length) M) => specIns_any ls l bs rs M y _ _ W (HV.out.below h) hr HPL.out hml hyl hms)
          have HTO := Lib.hid (fun j (hj : j < TT.length) hj2 => traced_old (ls := ls) (bs := bs) (rs := rs) (ts := ts) (n := n) hgb hf (j := j) hj2 hj)
          have HTN := Lib.hid (fun hj2 => traced_new (ls := ls) (bs := bs) (rs := rs) (ts := ts) (T := TT) (n := n) hgb hf hj2)
          rw [hgl] at HTO HTN HNT
          obtain ⟨ins, hins⟩ : ∃ ins, bodiesL M ls[y] = ins := ⟨_, rfl⟩
          rw [hins] at HIC HTO HTN HNT
          obtain ⟨⟨r1, r2⟩, hR⟩ : ∃ R, makeM ls rs M y = R := ⟨_, rfl⟩
          rw [hR] at HMKC HTN HMO HNT
          have hr2 : ¬ (r2 = 2) := HMO.out.2
          have hrz : decide (r2 = 2) = false := decide_eq_false hr2
          unfold resV at HMKC
          simp only at HMKC
          have hi10 : ins.length ≤ 10 := (texts_parts (insOk_parts (traceA_parts HNT.out).1).2.2.2.2).2
          clear hgb hgl hgt' htc hyt2 hb hf hins hR HMO HNT d0 d1 f0 f1
          obtain ⟨lt0, lcc, rfl, hlc1, hlc2⟩ := HQ.out.2.1.slice
          unfold maxLen at hlc2
          go_wp2_with fail
          refine HMKC.out.mono ?_
          rintro e w5 ⟨rfl, hb5⟩
          have HB5 := Lib.hid (bth HB.out hb5 (Nat.le_refl _))
          obtain ⟨wq, hwq⟩ : ∃ wq, wq = w5.alloc (.cells #[.string ⟨r1.toArray⟩, .int .i64 r2] 75) := ⟨_, rfl⟩
          have Q0 : Hid (Blk2 wq w5.heap.size 75 (.string ⟨r1.toArray⟩) (.int .i64 r2)) := by rw [hwq]; exact Blk2.new
          have HWQ : Hid (w5.alloc (.cells #[.string ⟨r1.toArray⟩, .int .i64 r2] 75) = wq) := by rw [hwq]; rfl
          have hbq : Below w5.heap.size w5 wq := by rw [hwq]; exact (Below.refl _ w5).alloc (Nat.le_refl _) _
          have hsq : w5.heap.size < wq.heap.size := by rw [hwq]; simp
          have hbb := bth hb5 hbq (Nat.le_refl _)
          have HBQ := Lib.hid (bth HB.out hbb (Nat.le_refl _))
          have HNQ := Lib.hid (own_belowG HN.out hbb)
          have HQQ := Lib.hid (HQ.out.below hbb)
          have hgq5 : gq < wr.heap.size := (HN.out.lt gq rfl).2
          have hgq6 : gq < w5.heap.size := Nat.lt_of_lt_of_le hgq5 hb5.size
          obtain ⟨q0, q1⟩ := Q0.out.cells
          clear hb5 hwq hbq hbb c0 c1 c2 c3 HMKC hsc hcell HB HN HQ HBW
          obtain ⟨c0, c1, c2, c3⟩ := (P0.out.below HBQ.out hsz).cells
          go_upto_region 12 with fail
          rw [HWQ.out]
          go_wp2_with fail
          refine (HIC.out wq (bth HA.out HBQ.out (Nat.le_refl _)) (RowR.of_ownL HNQ.out hml)).mono ?_
          rintro e w6 ⟨v6, rfl, ho6, hb6⟩
          have HB6 := Lib.hid (bth HBQ.out hb6 (Nat.le_refl _))
          have HN6 := Lib.hid (own_belowG HNQ.out hb6)
          have HQ6 := Lib.hid (HQQ.out.below hb6)
          have Q6 := Lib.hid (Q0.out.below hb6 hsq)
          have HL6 := Lib.hid (HQQ.out.2.2.snoc hb6 ho6 (Nat.le_refl _) HBQ.out.size)
          obtain ⟨ai, ci, rfl⟩ := own_slice ho6
          have HO6 := Lib.hid (RowV.of_own ho6)
          have hs6 : w5.heap.size < w6.heap.size := Nat.lt_of_lt_of_le hsq hb6.size
          have HFC := Lib.hid (specFind_any TT (y : Int) ins _ _ w6 HQ6.out.view HO6.out)
          clear hb6 ho6 c0 c1 c2 c3 q0 q1 HIC HBQ HNQ HQQ Q0 HWQ HB5
          obtain ⟨f, hf⟩ : ∃ f, findT TT (y : Int) ins = f := ⟨_, rfl⟩
          rcases f with _ | j
          · have HK : Hid (findK TT (y : Int) ins = -1) := by show _ = _; unfold findK; rw [hf]
            rw [HK.out] at HFC
            rw [HTN.out hf] at HNX
            clear hf HTN HTO
            go_wp2_with fail
            refine HFC.out.mono ?_
            rintro e w7 ⟨rfl, hb7⟩
            have HB7 := Lib.hid (bth HB6.out hb7 (Nat.le_refl _))
            have HN7 := Lib.hid (own_belowG HN6.out hb7)
            have HQ7 := Lib.hid (HQ6.out.below hb7)
            have HL7 := Lib.hid (HL6.out.below hb7)
            have Q7 := Lib.hid (Q6.out.below hb7 hs6)
            obtain ⟨q0, q1⟩ := Q7.out.cells
            obtain ⟨d0, d1, f0, f1⟩ := own_atR HN7.out hml hgd
            have hst := own_setR HN7.out hgd (r1, r2)
            obtain ⟨w8, hw8⟩ : ∃ w8, w8 = (w7.setCell ⟨gq, y * 2, none⟩ (.string ⟨r1.toArray⟩)).setCell ⟨gq, y * 2 + 1, none⟩ (.int .i64 r2) := ⟨_, rfl⟩
            have HW8 : Hid ((w7.setCell ⟨gq, y * 2, none⟩ (.string ⟨r1.toArray⟩)).setCell ⟨gq, y * 2 + 1, none⟩ (.int .i64 r2) = w8) := by rw [hw8]; rfl
            simp only at hst
            rw [← hw8] at hst
            have HN8 := Lib.hid hst.1
            have HQ8 := Lib.hid (HQ7.out.beside HN7.out hst.2)
            have HL8 := Lib.hid (HL7.out.beside HN7.out hst.2)
            have hgqw := (HN7.out.lt gq rfl).1
            have HB8 := Lib.hid (HB7.out.trans (only_below hst.2 hgqw HB7.out.size))
            have hneq : w5.heap.size ≠ gq := by omega
            have Q8 : Hid (Blk2 w8 w5.heap.size 75 (.string ⟨r1.toArray⟩) (.int .i64 r2)) := by rw [hw8]; exact (Below.heap_setCell _ ⟨gq, y * 2 + 1, none⟩ _ _ hneq).trans ((Below.heap_setCell _ ⟨gq, y * 2, none⟩ _ _ hneq).trans Q7.out)
            clear hst hb7 hw8 HFC
            go_upto_region 19 with fail
            rw [HW8.out]
            clear q0 q1 d0 d1 f0 f1
            obtain ⟨q0, q1⟩ := Q8.out.cells
            have HNC := Lib.hid (l9Note_any wa.heap.size TT sl ((y : Int), ins, (r1, r2)) _ ai ci w8 HQ8.out.1 HQ8.out.2.1 HL8.out hmf HB8.out.size)
            unfold trV at HNC
            simp only at HNC
            go_wp2_with fail
            refine HNC.out.mono ?_
            rintro e w9 ⟨v9, sl9, rfl, hN9, hg9⟩
            have HR9 : Hid (w9.ownsRow wa.heap.size 75 2 (.slice (some ⟨gq, 0, none⟩) bs.length bs.length) bs.length (RC (MK (k + 1)).1)) := by rw [HNX.out]; exact HQ8.out.2.1.stays HN8.out (by decide) hg9
            have HT9 : Hid (OwnT wa.heap.size w9 v9 sl9 (MK (k + 1)).2.1) := by rw [HNX.out]; exact hN9
            have HB9 := Lib.hid (HB8.out.trans (below_ownA HQ8.out.2.1 hg9 HB8.out.size))
            have HNN : Hid ((MK (k + 1)).2.2 = n + 1) := by show _ = _; rw [HNX.out]
            clear hN9 hg9 q0 q1 HNC HNX
            go_wp2_with fail
            go_roundw
            case rel => exact ⟨k + 1, _, by omega, by go_num, by rw [HNN.out]; go_num, HB9, HR9, HT9⟩
            case measure => simp [intOf]; omega
          · have hj := findT_lt hf
            have HK : Hid (findK TT (y : Int) ins = (j : Int)) := by show _ = _; unfold findK; rw [hf]
            rw [HK.out] at HFC
            rw [HTO.out j hj hf] at HNX
            have hjz : (j : Int) < (TT.length : Int) := by omega
            obtain ⟨tg, to', tc, hv, _, _, _, _⟩ := HQ6.out.2.1.addr (by omega)
            injection hv with hv1 _ hv3
            subst hv1 hv3
            clear hf HTN HTO
            go_wp2_with fail
            refine HFC.out.mono ?_
            rintro e w7 ⟨rfl, hb7⟩
            have HB7 := Lib.hid (bth HB6.out hb7 (Nat.le_refl _))
            have HN7 := Lib.hid (own_belowG HN6.out hb7)
            have HQ7 := Lib.hid (HQ6.out.below hb7)
            obtain ⟨d0, d1, f0, f1⟩ := own_atR HN7.out hml hgd
            obtain ⟨_, _, t2, t3⟩ := HQ7.out.2.1.atT HQ7.out.1 hj
            have hst := own_setR HN7.out hgd TT[j].2.2
            have HR8 : Hid (World.ownsRow ((w7.setCell ⟨gq, y * 2, none⟩ (.string ⟨TT[j].2.2.1.toArray⟩)).setCell ⟨gq, y * 2 + 1, none⟩ (.int .i64 TT[j].2.2.2)) wa.heap.size 75 2 (.slice (some ⟨gq, 0, none⟩) bs.length bs.length) bs.length (RC (MK (k + 1)).1)) := by rw [HNX.out]; exact hst.1
            have HT8 : Hid (OwnT wa.heap.size ((w7.setCell ⟨gq, y * 2, none⟩ (.string ⟨TT[j].2.2.1.toArray⟩)).setCell ⟨gq, y * 2 + 1, none⟩ (.int .i64 TT[j].2.2.2)) (.slice (some ⟨tg, to', none⟩) TT.length lcc) sl (MK (k + 1)).2.1) := by rw [HNX.out]; exact HQ7.out.beside HN7.out hst.2
            have hgqw := (HN7.out.lt gq rfl).1
            have HB8 := Lib.hid (HB7.out.trans (only_below hst.2 hgqw HB7.out.size))
            have HNN : Hid ((MK (k + 1)).2.2 = n) := by show _ = _; rw [HNX.out]
            clear hst hb7 HFC HNX
            generalize TT[j].2.2.1 = z1 at *
            generalize TT[j].2.2.2 = z2 at *
            go_wp2_with fail
            go_roundw
            case rel => exact ⟨k + 1, _, by omega, by go_num, by rw [HNN.out], HB8, HR8, HT8⟩
            case measure => simp [intOf]; omega
        · have hmb := made_blocked (ls := ls) (rs := rs) hf
          rw [hmb] at HMKC
          rw [traced_blk (ls := ls) (bs := bs) (rs := rs) (ts := ts) hgb hf] at HNX
          unfold resV at HMKC
          simp only at HMKC
          clear hgb hgl hgt' htc hyt2 hb hf hmb d0 d1 f0 f1
          obtain ⟨lt0, lcc, rfl, hlc1, hlc2⟩ := HQ.out.2.1.slice
          go_wp2_with fail
          refine HMKC.out.mono ?_
          rintro e w5 ⟨rfl, hb5⟩
          obtain ⟨wq, hwq⟩ : ∃ wq, wq = w5.alloc (.cells #[.string ⟨([] : List UInt8).toArray⟩, .int .i64 2] 75) := ⟨_, rfl⟩
          have Q0 : Hid (Blk2 wq w5.heap.size 75 (.string ⟨([] : List UInt8).toArray⟩) (.int .i64 2)) := by rw [hwq]; exact Blk2.new
          have HWQ : Hid (w5.alloc (.cells #[.string ⟨([] : List UInt8).toArray⟩, .int .i64 2] 75) = wq) := by rw [hwq]; rfl
          have hbq : Below w5.heap.size w5 wq := by rw [hwq]; exact (Below.refl _ w5).alloc (Nat.le_refl _) _
          have hbb := bth hb5 hbq (Nat.le_refl _)
          have HBQ := Lib.hid (bth HB.out hbb (Nat.le_refl _))
          have HNQ := Lib.hid (own_belowG HN.out hbb)
          have HQQ := Lib.hid (HQ.out.below hbb)
          obtain ⟨q0, q1⟩ := Q0.out.cells
          obtain ⟨d0, d1, f0, f1⟩ := own_atR HNQ.out hml hgd
          have hst := own_setR HNQ.out hgd ([], 2)
          have HR8 : Hid (World.ownsRow ((wq.setCell ⟨gq, y * 2, none⟩ (.string ⟨([] : List UInt8).toArray⟩)).setCell ⟨gq, y * 2 + 1, none⟩ (.int .i64 2)) wa.heap.size 75 2 (.slice (some ⟨gq, 0, none⟩) bs.length bs.length) bs.length (RC (MK (k + 1)).1)) := by rw [HNX.out]; exact hst.1
          have HT8 : Hid (OwnT wa.heap.size ((wq.setCell ⟨gq, y * 2, none⟩ (.string ⟨([] : List UInt8).toArray⟩)).setCell ⟨gq, y * 2 + 1, none⟩ (.int .i64 2)) (.slice lt0 TT.length lcc) sl (MK (k + 1)).2.1) := by rw [HNX.out]; exact HQQ.out.beside HNQ.out hst.2
          have hgqw := (HNQ.out.lt gq rfl).1
          have HB8 := Lib.hid (HBQ.out.trans (only_below hst.2 hgqw HBQ.out.size))
          have HNN : Hid ((MK (k + 1)).2.2 = n) := by show _ = _; rw [HNX.out]
          clear hst hb5 hwq hbq hbb c0 c1 c2 c3 HMKC hsc hcell HB HN HQ HBW HNX
          go_upto_region 12 with fail
          rw [HWQ.out]
          go_wp2_with fail
          go_roundw
          case rel => exact ⟨k + 1, _, by omega, by go_num, by rw [HNN.out], HB8, HR8, HT8⟩
          case measure => simp [intOf]; omega
      · rw [hb] at hsc hgb
        rw [traced_src (ls := ls) (bs := bs) (rs := rs) (ts := ts) hgb, hgt'] at HNX
        have hst := own_setR HN.out hgd (ts[y], 0)
        have HR8 : Hid (World.ownsRow ((wr.setCell ⟨gq, y * 2, none⟩ (.string ⟨ts[y].toArray⟩)).setCell ⟨gq, y * 2 + 1, none⟩ (.int .i64 0)) wa.heap.size 75 2 (.slice (some ⟨gq, 0, none⟩) bs.length bs.length) bs.length (RC (MK (k + 1)).1)) := by rw [HNX.out]; exact hst.1
        have HT8 := Lib.hid (HQ.out.beside HN.out hst.2)
        have HT8' : Hid ((MK (k + 1)).2.1 = TT) := by show _ = _; rw [HNX.out]
        rw [← HT8'.out] at HT8
        have hgqw := (HN.out.lt gq rfl).1
        have HB8 := Lib.hid (HB.out.trans (only_below hst.2 hgqw HB.out.size))
        have HNN : Hid ((MK (k + 1)).2.2 = n) := by show _ = _; rw [HNX.out]
        clear hst hgb hgl hgt' hb HN HQ HB HNX HT8'
        generalize ts[y] = tx at *
        go_wp2_with fail
        go_roundw
        case rel => exact ⟨k + 1, _, by omega, by go_num, by rw [HNN.out], HB8, HR8, HT8⟩
        case measure => simp [intOf]; omega
    · obtain rfl : k = l.length := by omega
      have hon := HON.out l.length
      rw [HMZ.out] at hon HN HQ ⊢
      have HML := Lib.hid hon.len
      have HSH := Lib.hid (short_of hon.all)
      have hfw := hon.few
      clear HATO HATS HT HIN HMN hon HON
      have HCO := Lib.hid (l9Own_any _ _ wr HQ.out.view HSH.out (by omega))
      go_wp2_with fail
      refine HCO.out.mono ?_
      rintro e w9 ⟨v9, s9, rfl, hN9, hb9⟩
      have HR9 := Lib.hid (own_belowG HN.out hb9)
      have HB9 := Lib.hid (bth HBW.out hb9 (Nat.le_refl _))
      have HN9 := Lib.hid (hN9.base HBW.out.size)
      clear hb9 hN9 HCO
      go_wp2_with fail
      (try simp only [Exit.inBlock, Exit.then])
      refine bodyPost_ret (results_tmp4 rfl _ _ _) rfl ?_
      exact ⟨_, _, s9, rfl, by rw [HML.out]; exact own_baseG HR9.out HA.out.size, HN9.out, HB9.out⟩

end Go.Proofs.YtgolhfmmlanmlaaGreatDoor

/- Walks: a task of a build with traces, of the program. -/
namespace Go.Proofs.YtgolhfmmlanmlaaGreatDoor
open Go.RowKit Pth

/-- A block of eight cells. -/
def Blk8 (w : World) (b t : Nat) (x0 x1 x2 x3 x4 x5 x6 x7 : Value) : Prop := w.heap[b]? = some (.cells #[x0, x1, x2, x3, x4, x5, x6, x7] t (0, 0))
section
variable {w w' : World} {B b t : Nat} {x0 x1 x2 x3 x4 x5 x6 x7 : Value}
theorem Blk8.cells (h : Blk8 w b t x0 x1 x2 x3 x4 x5 x6 x7) : w.cell? ⟨b, 0, none⟩ = some x0 ∧ w.cell? ⟨b, 1, none⟩ = some x1 ∧ w.cell? ⟨b, 2, none⟩ = some x2 ∧ w.cell? ⟨b, 3, none⟩ = some x3 ∧ w.cell? ⟨b, 4, none⟩ = some x4 ∧ w.cell? ⟨b, 5, none⟩ = some x5 ∧ w.cell? ⟨b, 6, none⟩ = some x6 ∧ w.cell? ⟨b, 7, none⟩ = some x7 := by
  refine ⟨?_, ?_, ?_, ?_, ?_, ?_, ?_, ?_⟩ <;> rw [cell_of_row w b _ _ t (0, 0) h] <;> rfl
theorem Blk8.soft (h : Blk8 w b t x0 x1 x2 x3 x4 x5 x6 x7) (j : Nat) : w.frozen? ⟨b, j, none⟩ = false := frozen_of_row w b j _ t h
theorem Blk8.below (h : Blk8 w b t x0 x1 x2 x3 x4 x5 x6 x7) (hb : Below B w w') (hlt : b < B) : Blk8 w' b t x0 x1 x2 x3 x4 x5 x6 x7 := (hb.block b hlt).trans h
theorem Blk8.new : Blk8 (w.alloc (.cells #[x0, x1, x2, x3, x4, x5, x6, x7] t)) w.heap.size t x0 x1 x2 x3 x4 x5 x6 x7 := heap_alloc_new w _
theorem Blk8.old (h : Blk8 w b t x0 x1 x2 x3 x4 x5 x6 x7) (o : Obj) : Blk8 (w.alloc o) b t x0 x1 x2 x3 x4 x5 x6 x7 := (Below.heap_alloc w o b (lt_of_block h)).trans h
theorem Blk8.other (h : Blk8 w b t x0 x1 x2 x3 x4 x5 x6 x7) {p : Addr} (hp : b ≠ p.block) (n : Value) : Blk8 (w.setCell p n) b t x0 x1 x2 x3 x4 x5 x6 x7 := (Below.heap_setCell w p n b hp).trans h
theorem Blk8.set6 (h : Blk8 w b t x0 x1 x2 x3 x4 x5 x6 x7) (n : Value) : Blk8 (w.setCell ⟨b, 6, none⟩ n) b t x0 x1 x2 x3 x4 x5 n x7 := heap_setCell_same w b 6 _ t n h
theorem Blk8.set7 (h : Blk8 w b t x0 x1 x2 x3 x4 x5 x6 x7) (n : Value) : Blk8 (w.setCell ⟨b, 7, none⟩ n) b t x0 x1 x2 x3 x4 x5 x6 n := heap_setCell_same w b 7 _ t n h
/-- A block of another type is none of a row's. -/
theorem OwnA.away {e n z D : Nat} {v : Value} {ys : List Value} (h : OwnA D e z w v n ys) {cs : Array Value} (hh : w.heap[b]? = some (.cells cs t (0, 0))) (hne : e ≠ t) : v.ownBlock ≠ some b := by
  intro hb
  obtain ⟨h0, hn | ⟨g, o, cap, cur, hv, hB, hg, r⟩⟩ := h
  · rw [hn.1] at hb; exact absurd hb (by simp [Value.ownBlock])
  · rw [hv] at hb
    have hgb : g = b := Option.some.inj hb
    rw [hgb, hh] at hg
    injection hg with hg
    injection hg with _ h2 _
    exact hne h2.symm
theorem Blk8.beside {r : Option Nat} (h : Blk8 w b t x0 x1 x2 x3 x4 x5 x6 x7) (hg : w.grownBy w' r) (hr : r ≠ some b) : Blk8 w' b t x0 x1 x2 x3 x4 x5 x6 x7 := (hg.block b (lt_of_block h) (fun e => hr e.symm)).trans h
theorem Blk2.besideR {r : Option Nat} {x y : Value} (h : Blk2 w b t x y) (hg : w.grownBy w' r) (hr : r ≠ some b) : Blk2 w' b t x y := (hg.block b (lt_of_block h) (fun e => hr e.symm)).trans h
end
/-- What a task comes to, and how the build stands then. -/
def BuiltP (ls : List (List Int)) (l : List Int) (bs : List Bool) (rs : List (List OpT)) (ts : List (List UInt8)) (M : List ResT) (T : List TrT) (n y b B : Nat) (an ao as0 ar at0 _tl : Option Addr) (cn co cs cr ct _tc gq : Nat) (w : World) (e : Ending) (w' : World) : Prop :=
  ∃ r T' n' a' c' sl', e = .returned (resV r) ∧ tracedS ls bs rs ts (M, T, n) y = (M.set y r, T', n') ∧ Blk8 w' b 87 (.slice an ls.length cn) (.slice ao l.length co) (.slice as0 bs.length cs) (.slice ar rs.length cr) (.slice at0 ts.length ct) (.slice (some ⟨gq, 0, none⟩) bs.length bs.length) (.slice a' T'.length c') (.int .i64 ((n' : Nat) : Int)) ∧ w'.ownsRow B 75 2 (.slice (some ⟨gq, 0, none⟩) bs.length bs.length) bs.length (RC M) ∧ OwnT B w' (.slice a' T'.length c') sl' T' ∧ Below B w w' ∧ l = l
section
variable {ls : List (List Int)} {bs : List Bool} {rs : List (List OpT)} {ts : List (List UInt8)} {M : List ResT} {T : List TrT} {n k : Nat}
theorem traced_found (h : bs.getD k false = false) (hb : (firstL M (ls.getD k [])).2 = false) {r : ResT} (hf : foundT T (k : Int) (bodiesL M (ls.getD k [])) = some r) : tracedS ls bs rs ts (M, T, n) k = (M.set k r, T, n) := by
  unfold tracedS; rw [if_neg (by rw [h]; decide), if_neg (by rw [hb]; decide), hf]
theorem traced_none (h : bs.getD k false = false) (hb : (firstL M (ls.getD k [])).2 = false) (hf : foundT T (k : Int) (bodiesL M (ls.getD k [])) = none) :
    tracedS ls bs rs ts (M, T, n) k = (M.set k (makeM ls rs M k), noteL T ((k : Int), bodiesL M (ls.getD k []), makeM ls rs M k), n + 1) := by
  unfold tracedS; rw [if_neg (by rw [h]; decide), if_neg (by rw [hb]; decide), hf]
end
theorem own_keepT {w : World} {B e z m : Nat} {v : Value} {xs : List Value} (h : w.ownsRow B e z v m xs) {p : Addr} {cs : Array Value} {t : Nat} (hh : w.heap[p.block]? = some (.cells cs t (0, 0))) (hne : t ≠ e) (u : Value) : (w.setCell p u).ownsRow B e z v m xs := by
  refine ⟨h.1, ?_⟩
  rcases h.2 with h0 | ⟨g, cap, cur, hv, hg, hc, r⟩
  · exact .inl h0
  · refine .inr ⟨g, cap, cur, hv, hg, (Below.heap_setCell w p u g (fun e => ?_)).trans hc, r⟩
    rw [e, hh] at hc
    injection hc with hc
    injection hc with _ h2 _
    exact hne h2
theorem OwnT.keepT {w : World} {B : Nat} {v : Value} {sl : List Value} {l : List TrT} (h : OwnT B w v sl l) {p : Addr} {cs : Array Value} {t : Nat} (hh : w.heap[p.block]? = some (.cells cs t (0, 0))) (h1 : t ≠ 80) (h2 : t ≠ 9) (u : Value) : OwnT B (w.setCell p u) v sl l := by
  refine ⟨h.1, h.2.1.keep fun g cur _ hc => Below.heap_setCell w p u g (fun e => ?_), fun q hq => own_keepT (h.2.2.1 q hq) hh h2 u, h.2.2.2⟩
  rw [e, hh] at hc
  injection hc with hc
  injection hc with _ h3 _
  exact h1 h3
theorem own_keepN {w : World} {B e z m : Nat} {v : Value} {xs : List Value} (h : w.ownsRow B e z v m xs) {p : Addr} (hp : v.ownBlock ≠ some p.block) (u : Value) : (w.setCell p u).ownsRow B e z v m xs := by
  refine ⟨h.1, ?_⟩
  rcases h.2 with h0 | ⟨g, cap, cur, hv, hg, hh, r⟩
  · exact .inl h0
  · exact .inr ⟨g, cap, cur, hv, hg, (Below.heap_setCell w p u g (fun e => hp (by rw [hv, ← e]; rfl))).trans hh, r⟩
theorem built_fin {w6 : World} {b B rz gq m : Nat} {x0 x1 x2 x3 x4 x5 x6 x7 p q v u6 u7 s0 s1 : Value} {xs sl : List Value} {l : List TrT} (B6 : Blk8 w6 b 87 x0 x1 x2 x3 x4 x5 x6 x7) (HR : w6.ownsRow B 75 2 (.slice (some ⟨gq, 0, none⟩) m m) m xs) (HT : OwnT B w6 v sl l)
    (R6 : Blk2 w6 rz 75 p q) (hgq : gq ≠ rz) (hbr : b ≠ rz) :
    Blk8 ((((w6.setCell ⟨b, 6, none⟩ u6).setCell ⟨b, 7, none⟩ u7).setCell ⟨rz, 0, none⟩ s0).setCell ⟨rz, 1, none⟩ s1) b 87 x0 x1 x2 x3 x4 x5 u6 u7 ∧ World.ownsRow ((((w6.setCell ⟨b, 6, none⟩ u6).setCell ⟨b, 7, none⟩ u7).setCell ⟨rz, 0, none⟩ s0).setCell ⟨rz, 1, none⟩ s1) B 75 2 (.slice (some ⟨gq, 0, none⟩) m m) m xs ∧
    OwnT B ((((w6.setCell ⟨b, 6, none⟩ u6).setCell ⟨b, 7, none⟩ u7).setCell ⟨rz, 0, none⟩ s0).setCell ⟨rz, 1, none⟩ s1) v sl l := by
  have B7 := B6.set6 u6
  have B8 := B7.set7 u7
  have R7 : Blk2 (w6.setCell ⟨b, 6, none⟩ u6) rz 75 p q := (Below.heap_setCell _ ⟨b, 6, none⟩ _ _ (Ne.symm hbr)).trans R6
  have R8 : Blk2 ((w6.setCell ⟨b, 6, none⟩ u6).setCell ⟨b, 7, none⟩ u7) rz 75 p q := (Below.heap_setCell _ ⟨b, 7, none⟩ _ _ (Ne.symm hbr)).trans R7
  have hgn : ∀ j : Nat, (Value.slice (some ⟨gq, 0, none⟩) m m).ownBlock ≠ some (⟨rz, j, none⟩ : Addr).block := fun j e => hgq (Option.some.inj e)
  refine ⟨(B8.other (p := ⟨rz, 0, none⟩) hbr _).other (p := ⟨rz, 1, none⟩) hbr _, own_keepN (own_keepN (own_keepT (own_keepT HR (p := ⟨b, 6, none⟩) B6 (by decide) _) (p := ⟨b, 7, none⟩) B7 (by decide) _) (p := ⟨rz, 0, none⟩) (hgn 0) _) (p := ⟨rz, 1, none⟩) (hgn 1) _, ?_⟩
  exact (((HT.keepT (p := ⟨b, 6, none⟩) B6 (by decide) (by decide) _).keepT (p := ⟨b, 7, none⟩) B7 (by decide) (by decide) _).keepT (p := ⟨rz, 0, none⟩) R8 (by decide) (by decide) _).keepT (p := ⟨rz, 1, none⟩) (R8.set0 _) (by decide) (by decide) _
/-- A new result in a block of its own. -/
def NewBox (w : World) (q : Nat) (r1 : List UInt8) (r2 : Int) (wx : World) : Prop := w.heap.size ≤ q ∧ Blk2 wx q 75 (.string ⟨r1.toArray⟩) (.int .i64 r2) ∧ Below w.heap.size w wx

set_option maxRecDepth 20000 in
set_option maxHeartbeats 8000000 in
theorem build_any (ls : List (List Int)) (l : List Int) (bs : List Bool) (rs : List (List OpT)) (ts : List (List UInt8)) (M : List ResT) (T : List TrT) (n y b B : Nat) (sl : List Value) (an ao as0 ar at0 tl : Option Addr) (cn co cs cr ct tc gq : Nat) (w : World)
    (h8 : Blk8 w b 87 (.slice an ls.length cn) (.slice ao l.length co) (.slice as0 bs.length cs) (.slice ar rs.length cr) (.slice at0 ts.length ct) (.slice (some ⟨gq, 0, none⟩) bs.length bs.length) (.slice tl T.length tc) (.int .i64 (n : Int))) (hbB : B ≤ b) (hBw : B ≤ w.heap.size) (hp : ∀ W, Below B w W → PlanV W (.agg #[.slice an ls.length cn, .slice ao l.length co, .slice as0 bs.length cs, .slice ar rs.length cr]) ls l bs rs) (hts : ∀ W, Below B w W → RowV W (.slice at0 ts.length ct) (S ts))
    (hr : w.ownsRow B 75 2 (.slice (some ⟨gq, 0, none⟩) bs.length bs.length) bs.length (RC M)) (hT : OwnT B w (.slice tl T.length tc) sl T) (hpl : planA ls l bs rs = true) (htb : ts.length = bs.length) (hon : OnWay ls bs (M, T, n)) (hy : y < ls.length) (hxt : ∀ x ∈ ts, x.length ≤ 40) (hn : n ≤ 1000) :
    Calls Tryz.prog 51 #[.pointer (some ⟨b, 0, none⟩), .int .i64 (y : Int)] w (BuiltP ls l bs rs ts M T n y b B an ao as0 ar at0 tl cn co cs cr ct tc gq w) := by
  have hbl := (plan_parts hpl).2.1
  have hyb : y < bs.length := by have := (plan_parts hpl).1.same; omega
  obtain ⟨hml, hms, hma, hmf⟩ := hon
  simp only at hml hms hma hmf
  have hp0 := hp w (Below.refl _ _)
  obtain ⟨nv', ov', sv', rv', he, p1, p2, p3, p4⟩ := hp0
  injection he with he
  simp only [Array.mk.injEq, List.cons.injEq, and_true] at he
  obtain ⟨rfl, rfl, rfl, rfl⟩ := he
  obtain ⟨_, _, hv0, hs1, hs2, hats⟩ := p3.boolsW
  injection hv0 with ha0 _ hc0
  subst ha0 hc0
  unfold maxLen at hs2
  obtain ⟨gs, os, rfl, hgs, hcs⟩ := hats y hyb
  clear p1 p2 p3 p4 hats
  have hyz : (y : Int) < (bs.length : Int) := by omega
  have hyts : y < ts.length := by omega
  obtain ⟨_, lcc, hvT, hlc1, hlc2⟩ := hT.2.1.slice
  injection hvT with hva _ hvc
  subst hva hvc
  unfold maxLen at hlc2
  have hgb := getD_at false hyb
  have hgt := getD_at ([] : List UInt8) hyts
  have hgl := getD_at ([] : List Int) hy
  obtain ⟨wa, hwa⟩ : ∃ wa, wa = w.alloc (.cells #[.string ⟨#[]⟩, .int .i64 0] 75) := ⟨_, rfl⟩
  have hsz : wa.heap.size = w.heap.size + 1 := by rw [hwa]; simp
  have HWA : Hid (w.alloc (.cells #[.string ⟨#[]⟩, .int .i64 0] 75) = wa) := by rw [hwa]; rfl
  have hA : Below w.heap.size w wa.drew := Below.drew (by rw [hwa]; exact (Below.refl _ w).alloc (Nat.le_refl _) _)
  have HA := Lib.hid hA
  have hbw : b < w.heap.size := lt_of_block h8
  have B0 : Hid (Blk8 wa.drew b 87 (.slice an ls.length cn) (.slice ao l.length co) (.slice (some ⟨gs, os, none⟩) bs.length cs) (.slice ar rs.length cr) (.slice at0 ts.length ct) (.slice (some ⟨gq, 0, none⟩) bs.length bs.length) (.slice tl T.length tc) (.int .i64 (n : Int))) := h8.below hA hbw
  have R0 : Hid (Blk2 wa.drew w.heap.size 75 (.string ⟨#[]⟩) (.int .i64 0)) := by show Blk2 wa _ _ _ _; rw [hwa]; exact Blk2.new
  have hds : wa.drew.heap.size = w.heap.size + 1 := hsz
  have hne : b ≠ w.heap.size := by omega
  have HK : Hid (∀ W, Below wa.drew.heap.size wa.drew W → W.cell? ⟨b, 0, none⟩ = some (.slice an ls.length cn) ∧ W.cell? ⟨b, 1, none⟩ = some (.slice ao l.length co) ∧ W.cell? ⟨b, 2, none⟩ = some (.slice (some ⟨gs, os, none⟩) bs.length cs) ∧ W.cell? ⟨b, 3, none⟩ = some (.slice ar rs.length cr) ∧ W.cell? ⟨b, 4, none⟩ = some (.slice at0 ts.length ct) ∧ W.cell? ⟨b, 5, none⟩ = some (.slice (some ⟨gq, 0, none⟩) bs.length bs.length) ∧ W.cell? ⟨b, 6, none⟩ = some (.slice tl T.length tc) ∧ W.cell? ⟨b, 7, none⟩ = some (.int .i64 (n : Int))) := fun W h => (B0.out.below h (by omega)).cells
  have HRZ : Hid (∀ W, Below wa.drew.heap.size wa.drew W → Blk2 W w.heap.size 75 (.string ⟨#[]⟩) (.int .i64 0)) := fun W h => R0.out.below h (by omega)
  have HWW : Hid (∀ W, Below wa.drew.heap.size wa.drew W → Below w.heap.size w W) := fun W h => bth HA.out h (by omega)
  have HV : Hid (∀ W, Below wa.drew.heap.size wa.drew W → PlanV W (.agg #[.slice an ls.length cn, .slice ao l.length co, .slice (some ⟨gs, os, none⟩) bs.length cs, .slice ar rs.length cr]) ls l bs rs) := fun W h => hp W ((HWW.out W h).mono hBw)
  have HTV : Hid (∀ W, Below wa.drew.heap.size wa.drew W → RowV W (.slice at0 ts.length ct) (S ts)) := fun W h => hts W ((HWW.out W h).mono hBw)
  have HRV : Hid (∀ W, Below wa.drew.heap.size wa.drew W → W.ownsRow B 75 2 (.slice (some ⟨gq, 0, none⟩) bs.length bs.length) bs.length (RC M)) := fun W h => own_belowG hr (HWW.out W h)
  have HTT : Hid (∀ W, Below wa.drew.heap.size wa.drew W → OwnT B W (.slice tl T.length tc) sl T) := fun W h => hT.below (HWW.out W h)
  have HSC : Hid (∀ W, Below wa.drew.heap.size wa.drew W → W.cell? ⟨gs, os + y, none⟩ = some (.bool bs[y])) := fun W h => ((HWW.out W h).cell (p := ⟨gs, os + y, none⟩) hgs).trans hcs
  have HF := Lib.hid (fun W (h : Below wa.drew.heap.size wa.drew W) => first_any ls l bs rs M y _ _ W (HV.out W h) (RowR.of_ownL (HRV.out W h) hml) hpl hml hy)
  have HO := Lib.hid (fun W (h : Below wa.drew.heap.size wa.drew W) => implOne_any ls l bs rs M ts y _ _ _ W (HV.out W h) (RowR.of_ownL (HRV.out W h) hml) (HTV.out W h) hpl hml htb hy hms hxt)
  have HB8 : Hid (∀ W, Below wa.drew.heap.size wa.drew W → Blk8 W b 87 (.slice an ls.length cn) (.slice ao l.length co) (.slice (some ⟨gs, os, none⟩) bs.length cs) (.slice ar rs.length cr) (.slice at0 ts.length ct) (.slice (some ⟨gq, 0, none⟩) bs.length bs.length) (.slice tl T.length tc) (.int .i64 (n : Int))) := fun W h => B0.out.below h (by omega)
  have BC := Lib.hid (Below.refl wa.drew.heap.size wa.drew)
  have ks := HK.out wa.drew BC.out
  have hwr : B ≤ w.heap.size := hBw
  have HIC := Lib.hid (fun W (h : Below wa.drew.heap.size wa.drew W) => implIns_any ls l bs rs M y _ _ W (HV.out W h) (RowR.of_ownL (HRV.out W h) hml) hpl hml hy hms)
  have HMK := Lib.hid (fun W (h : Below wa.drew.heap.size wa.drew W) => makeTask_of ls l bs rs M y _ _ W (HV.out W h) (RowR.of_ownL (HRV.out W h) hml) hpl hml hy hms)
  have HNT : Hid (bs[y] = false → (firstL M ls[y]).2 = false → traceA ls bs ((y : Int), bodiesL M ls[y], makeM ls rs M y) = true) := fun h1 h2 => by
    have := new_trace (ls := ls) (l := l) (bs := bs) (rs := rs) hpl hms hy (by rw [hgb]; exact h1) (by rw [hgl]; exact h2)
    rwa [hgl] at this
  have HTF : Hid (bs[y] = false → (firstL M ls[y]).2 = false → ∀ r, foundT T (y : Int) (bodiesL M ls[y]) = some r → tracedS ls bs rs ts (M, T, n) y = (M.set y r, T, n)) := fun h1 h2 r h3 => traced_found (by rw [hgb]; exact h1) (by rw [hgl]; exact h2) (by rw [hgl]; exact h3)
  have HTN : Hid (bs[y] = false → (firstL M ls[y]).2 = false → foundT T (y : Int) (bodiesL M ls[y]) = none → tracedS ls bs rs ts (M, T, n) y = (M.set y (makeM ls rs M y), noteL T ((y : Int), bodiesL M ls[y], makeM ls rs M y), n + 1)) := fun h1 h2 h3 => by
    rw [traced_none (by rw [hgb]; exact h1) (by rw [hgl]; exact h2) (by rw [hgl]; exact h3), hgl]
  have HMA := Lib.hid hma
  -- the cases ahead
  have HALT : Hid ((bs[y] = true ∨ (firstL M ls[y]).2 = true) → tracedS ls bs rs ts (M, T, n) y = (M.set y (oneM ls bs rs ts M y), T, n)) := fun h => by
    unfold oneM
    rcases hb : bs[y] with _ | _
    · rw [hb] at h hgb
      have hf : (firstL M (ls.getD y [])).2 = true := by rw [hgl]; simpa using h
      rw [traced_blk hgb hf, hgb, made_blocked hf]; rfl
    · rw [hb] at hgb
      rw [traced_src hgb, hgb]; rfl
  have HFIN : Hid (∀ W, Below wa.drew.heap.size wa.drew W → ∀ p q : Value, Blk8 ((W.setCell ⟨w.heap.size, 0, none⟩ p).setCell ⟨w.heap.size, 1, none⟩ q) b 87 (.slice an ls.length cn) (.slice ao l.length co) (.slice (some ⟨gs, os, none⟩) bs.length cs) (.slice ar rs.length cr) (.slice at0 ts.length ct) (.slice (some ⟨gq, 0, none⟩) bs.length bs.length) (.slice tl T.length tc) (.int .i64 (n : Int)) ∧ World.ownsRow ((W.setCell ⟨w.heap.size, 0, none⟩ p).setCell ⟨w.heap.size, 1, none⟩ q) B 75 2 (.slice (some ⟨gq, 0, none⟩) bs.length bs.length) bs.length (RC M) ∧
      OwnT B ((W.setCell ⟨w.heap.size, 0, none⟩ p).setCell ⟨w.heap.size, 1, none⟩ q) (.slice tl T.length tc) sl T ∧ Below B w ((W.setCell ⟨w.heap.size, 0, none⟩ p).setCell ⟨w.heap.size, 1, none⟩ q)) := fun W h p q => by
    have hW := HWW.out W h
    have h2 : Below w.heap.size w ((W.setCell ⟨w.heap.size, 0, none⟩ p).setCell ⟨w.heap.size, 1, none⟩ q) := (hW.setCell (p := ⟨w.heap.size, 0, none⟩) (Nat.le_refl _) _).setCell (p := ⟨w.heap.size, 1, none⟩) (Nat.le_refl _) _
    exact ⟨h8.below h2 hbw, own_belowG hr h2, hT.below h2, h2.mono hBw⟩
  have HML := Lib.hid hml
  have HGQ := Lib.hid (fun g h => hr.lt g h)
  have HWB : Hid (B ≤ wa.drew.heap.size) := by show _ ≤ _; omega
  have hwd : w.heap.size < wa.drew.heap.size := by omega
  clear hwa hA hp hts hcs hgs hbl htb hml hgb hgt hgl hds hsz
  generalize hfl : firstL M ls[y] = fl at *
  obtain ⟨fl1, fl2⟩ := fl
  unfold NumOk at HF
  simp only at HF HALT
  generalize hby : bs[y] = by0 at *
  generalize hins : bodiesL M ls[y] = ins at *
  generalize hmade : makeM ls rs M y = R9 at *
  obtain ⟨r1, r2⟩ := R9
  unfold resV at HMK
  simp only at HMK HNT HTF HTN
  clear hfl hby hins hmade hma
  go_enter Tryz.func51, Tryz.ntmps51
  go_wp2_with fail
  rw [HWA.out]
  go_region_held3 (fun w' => w'.cell? ⟨b, 0, none⟩ = some (.slice an ls.length cn) ∧ w'.cell? ⟨b, 1, none⟩ = some (.slice ao l.length co) ∧ w'.cell? ⟨b, 2, none⟩ = some (.slice (some ⟨gs, os, none⟩) bs.length cs) ∧ w'.cell? ⟨b, 3, none⟩ = some (.slice ar rs.length cr) ∧ w'.cell? ⟨b, 4, none⟩ = some (.slice at0 ts.length ct) ∧ w'.cell? ⟨b, 5, none⟩ = some (.slice (some ⟨gq, 0, none⟩) bs.length bs.length) ∧ w'.cell? ⟨b, 6, none⟩ = some (.slice tl T.length tc) ∧ w'.cell? ⟨b, 7, none⟩ = some (.int .i64 (n : Int))) (exact ks)
    (first
      | (go_at_call 84; refine (HF.out _ BC.out).mono ?_; rintro e w1 ⟨rfl, hb1⟩
         have BC := Lib.hid (BC.out.trans (hb1.mono BC.out.size))
         have ks := HK.out w1 BC.out
         clear hb1))
  all_goals
    have hsc := HSC.out w1 BC.out
    obtain ⟨c0, c1, c2, c3, c4, c5, c6, c7⟩ := ks
    by_cases hcase : by0 = true ∨ fl2 = true
    · have HTS := Lib.hid (HALT.out hcase)
      have hpk : (by0 || fl2) = true := by simpa using hcase
      generalize oneM ls bs rs ts M y = R at *
      obtain ⟨R1, R2⟩ := R
      unfold resV at HO
      simp only at HO
      have BC : Hid (Below wa.drew.heap.size wa.drew w1.drew) := BC.out.drew
      have ks := HK.out w1.drew BC.out
      clear c0 c1 c3 c4 c5 c6 c7
      rcases by0 with _ | _
      · have hfl2 : fl2 = true := by simpa using hpk
        subst hfl2
        go_wp2_with fail
        clear c2 hsc
        go_region_held3 (fun w' => w'.cell? ⟨b, 0, none⟩ = some (.slice an ls.length cn) ∧ w'.cell? ⟨b, 1, none⟩ = some (.slice ao l.length co) ∧ w'.cell? ⟨b, 2, none⟩ = some (.slice (some ⟨gs, os, none⟩) bs.length cs) ∧ w'.cell? ⟨b, 3, none⟩ = some (.slice ar rs.length cr) ∧ w'.cell? ⟨b, 4, none⟩ = some (.slice at0 ts.length ct) ∧ w'.cell? ⟨b, 5, none⟩ = some (.slice (some ⟨gq, 0, none⟩) bs.length bs.length) ∧ w'.cell? ⟨b, 6, none⟩ = some (.slice tl T.length tc) ∧ w'.cell? ⟨b, 7, none⟩ = some (.int .i64 (n : Int))) (first | exact ks | (rw [set_ne9 _ _ hne, set_ne9 _ _ hne, set_ne9 _ _ hne, set_ne9 _ _ hne, set_ne9 _ _ hne, set_ne9 _ _ hne, set_ne9 _ _ hne, set_ne9 _ _ hne, set_ne9 _ _ hne, set_ne9 _ _ hne, set_ne9 _ _ hne, set_ne9 _ _ hne, set_ne9 _ _ hne, set_ne9 _ _ hne, set_ne9 _ _ hne, set_ne9 _ _ hne]; exact ks))
          (first
            | (go_at_call 85; refine (HO.out _ BC.out).mono ?_; rintro e w2 ⟨rfl, hb2⟩
               have BC := Lib.hid (BC.out.trans (hb2.mono BC.out.size))
               have ks := HK.out w2 BC.out
               have HRB := Lib.hid (HRZ.out w2 BC.out)
               obtain ⟨f0, f1⟩ := HRB.out.cells
               have g0 := HRB.out.soft 0
               have g1 := HRB.out.soft 1
               clear hb2))
        all_goals
          clear ks
          go_wp2_with fail
          have hZ := (HRB.out.set0 (.string ⟨R1.toArray⟩)).set1 (.int .i64 R2)
          refine bodyPost_ret (results_cellR rfl rfl (load_res hZ.cells.1 hZ.cells.2)) rfl ?_
          obtain ⟨e1, e2, e3, e4⟩ := HFIN.out w2 BC.out (.string ⟨R1.toArray⟩) (.int .i64 R2)
          exact ⟨(R1, R2), T, n, tl, tc, sl, rfl, HTS.out, e1, e2, e3, e4, rfl⟩
      · clear hpk
        go_wp2_with fail
        clear c2 hsc
        go_region_held3 (fun w' => w'.cell? ⟨b, 0, none⟩ = some (.slice an ls.length cn) ∧ w'.cell? ⟨b, 1, none⟩ = some (.slice ao l.length co) ∧ w'.cell? ⟨b, 2, none⟩ = some (.slice (some ⟨gs, os, none⟩) bs.length cs) ∧ w'.cell? ⟨b, 3, none⟩ = some (.slice ar rs.length cr) ∧ w'.cell? ⟨b, 4, none⟩ = some (.slice at0 ts.length ct) ∧ w'.cell? ⟨b, 5, none⟩ = some (.slice (some ⟨gq, 0, none⟩) bs.length bs.length) ∧ w'.cell? ⟨b, 6, none⟩ = some (.slice tl T.length tc) ∧ w'.cell? ⟨b, 7, none⟩ = some (.int .i64 (n : Int))) (first | exact ks | (rw [set_ne9 _ _ hne, set_ne9 _ _ hne, set_ne9 _ _ hne, set_ne9 _ _ hne, set_ne9 _ _ hne, set_ne9 _ _ hne, set_ne9 _ _ hne, set_ne9 _ _ hne, set_ne9 _ _ hne, set_ne9 _ _ hne, set_ne9 _ _ hne, set_ne9 _ _ hne, set_ne9 _ _ hne, set_ne9 _ _ hne, set_ne9 _ _ hne, set_ne9 _ _ hne]; exact ks))
          (first
            | (go_at_call 85; refine (HO.out _ BC.out).mono ?_; rintro e w2 ⟨rfl, hb2⟩
               have BC := Lib.hid (BC.out.trans (hb2.mono BC.out.size))
               have ks := HK.out w2 BC.out
               have HRB := Lib.hid (HRZ.out w2 BC.out)
               obtain ⟨f0, f1⟩ := HRB.out.cells
               have g0 := HRB.out.soft 0
               have g1 := HRB.out.soft 1
               clear hb2))
        all_goals
          clear ks
          go_wp2_with fail
          have hZ := (HRB.out.set0 (.string ⟨R1.toArray⟩)).set1 (.int .i64 R2)
          refine bodyPost_ret (results_cellR rfl rfl (load_res hZ.cells.1 hZ.cells.2)) rfl ?_
          obtain ⟨e1, e2, e3, e4⟩ := HFIN.out w2 BC.out (.string ⟨R1.toArray⟩) (.int .i64 R2)
          exact ⟨(R1, R2), T, n, tl, tc, sl, rfl, HTS.out, e1, e2, e3, e4, rfl⟩
    · have hby : by0 = false := by cases by0 <;> simp_all
      have hfl : fl2 = false := by cases fl2 <;> simp_all
      subst hby hfl
      have HNT2 := Lib.hid (HNT.out rfl rfl)
      have HTF2 := Lib.hid (HTF.out rfl rfl)
      have HTN2 := Lib.hid (HTN.out rfl rfl)
      clear HNT HTF HTN
      obtain ⟨hti, hro, _⟩ := traceA_parts HNT2.out
      have hi10 : ins.length ≤ 10 := (texts_parts (insOk_parts hti).2.2.2.2).2
      have HSL := Lib.hid (same_of HMA.out hti)
      have HSH := Lib.hid (short_of HMA.out)
      have hrl := resOk_len hro
      simp only at hi10 hrl HSL
      have BC : Hid (Below wa.drew.heap.size wa.drew w1.drew) := BC.out.drew
      have ks := HK.out w1.drew BC.out
      clear c0 c1 c3 c4 c5 c6 c7 hcase hti hro HALT HO HF
      go_wp2_with fail
      clear c2 hsc
      go_region_held3 (fun w' => w'.cell? ⟨b, 0, none⟩ = some (.slice an ls.length cn) ∧ w'.cell? ⟨b, 1, none⟩ = some (.slice ao l.length co) ∧ w'.cell? ⟨b, 2, none⟩ = some (.slice (some ⟨gs, os, none⟩) bs.length cs) ∧ w'.cell? ⟨b, 3, none⟩ = some (.slice ar rs.length cr) ∧ w'.cell? ⟨b, 4, none⟩ = some (.slice at0 ts.length ct) ∧ w'.cell? ⟨b, 5, none⟩ = some (.slice (some ⟨gq, 0, none⟩) bs.length bs.length) ∧ w'.cell? ⟨b, 6, none⟩ = some (.slice tl T.length tc) ∧ w'.cell? ⟨b, 7, none⟩ = some (.int .i64 (n : Int))) (exact ks)
        (first
          | (go_at_call 86; refine (HIC.out _ BC.out).mono ?_; rintro e w2 ⟨v2, rfl, ho2, hb2⟩
             have HL2 := Lib.hid ((HTT.out _ BC.out).2.2.snoc hb2 ho2 (Nat.le_refl _) (by have := BC.out.size; have := HWB.out; omega))
             have BC := Lib.hid (BC.out.trans (hb2.mono BC.out.size))
             have ks := HK.out w2 BC.out
             have HO2 := Lib.hid ho2
             clear hb2 ho2))
      all_goals
        obtain ⟨c0, c1, c2, c3, c4, c5, c6, c7⟩ := ks
        obtain ⟨ai, ci, rfl⟩ := own_slice HO2.out
        have HOF := Lib.hid (outOf_any T (y : Int) ins _ _ w2 (HTT.out w2 BC.out).view (RowV.of_own HO2.out) hi10 HSL.out HSH.out)
        unfold OutPost at HOF
        obtain ⟨F, hF⟩ : ∃ F, foundT T (y : Int) ins = F := ⟨_, rfl⟩
        rw [hF] at HOF
        rcases F with _ | ⟨z1, z2⟩
        · have HTS := Lib.hid (HTN2.out hF)
          simp only [resO, noRes, Option.isSome, resV] at HOF
          clear HTF2 HTN2 hF c0 c1 c2 c3 c4 c5 c7
          go_wp2_with fail
          refine HOF.out.mono ?_
          rintro e w3 ⟨rfl, hb3⟩
          obtain ⟨wq, hwq⟩ : ∃ wq, wq = w3.alloc (.cells #[.string ⟨([] : List UInt8).toArray⟩, .int .i64 0] 75) := ⟨_, rfl⟩
          have HWQ : Hid (w3.alloc (.cells #[.string ⟨([] : List UInt8).toArray⟩, .int .i64 0] 75) = wq) := by rw [hwq]; rfl
          have hbq : Below w2.heap.size w2 wq := by rw [hwq]; exact hb3.alloc hb3.size _
          have BC : Hid (Below wa.drew.heap.size wa.drew wq) := bth BC.out hbq (Nat.le_refl _)
          have HO3 := Lib.hid (own_below HO2.out hbq)
          have HL3 := Lib.hid (HL2.out.below hbq)
          clear hb3 hbq hwq c6 HOF
          go_upto_region 8 with fail
          rw [HWQ.out]
          go_cut [10] from 71 to 80 (fun p wx => ∃ q : Nat, p = .pointer (some ⟨q, 0, none⟩) ∧ Hid (NewBox wq q r1 r2 wx))
          case first =>
            have BC8 : Hid (Below wa.drew.heap.size wa.drew wq.drew) := BC.out.drew
            have ks := HK.out wq.drew BC8.out
            have hwq8 : wa.drew.heap.size ≤ wq.drew.heap.size := BC8.out.size
            have hneA : b ≠ wq.heap.size := by have : wq.drew.heap.size = wq.heap.size := rfl; omega
            have D8 := Lib.hid (Below.refl wq.drew.heap.size wq.drew)
            go_region_held3 (fun w' => w'.cell? ⟨b, 0, none⟩ = some (.slice an ls.length cn) ∧ w'.cell? ⟨b, 1, none⟩ = some (.slice ao l.length co) ∧ w'.cell? ⟨b, 2, none⟩ = some (.slice (some ⟨gs, os, none⟩) bs.length cs) ∧ w'.cell? ⟨b, 3, none⟩ = some (.slice ar rs.length cr) ∧ w'.cell? ⟨b, 4, none⟩ = some (.slice at0 ts.length ct) ∧ w'.cell? ⟨b, 5, none⟩ = some (.slice (some ⟨gq, 0, none⟩) bs.length bs.length) ∧ w'.cell? ⟨b, 6, none⟩ = some (.slice tl T.length tc) ∧ w'.cell? ⟨b, 7, none⟩ = some (.int .i64 (n : Int))) (first | exact ks | exact HK.out _ (BC8.out.alloc BC8.out.size _) | (rw [set_ne9 _ _ hneA, set_ne9 _ _ hneA, set_ne9 _ _ hneA, set_ne9 _ _ hneA, set_ne9 _ _ hneA, set_ne9 _ _ hneA, set_ne9 _ _ hneA, set_ne9 _ _ hneA, set_ne9 _ _ hneA, set_ne9 _ _ hneA, set_ne9 _ _ hneA, set_ne9 _ _ hneA, set_ne9 _ _ hneA, set_ne9 _ _ hneA, set_ne9 _ _ hneA, set_ne9 _ _ hneA]; first | exact ks | exact HK.out _ (BC8.out.alloc BC8.out.size _)) | (rw [set_ne9 _ _ hneB, set_ne9 _ _ hneB, set_ne9 _ _ hneB, set_ne9 _ _ hneB, set_ne9 _ _ hneB, set_ne9 _ _ hneB, set_ne9 _ _ hneB, set_ne9 _ _ hneB, set_ne9 _ _ hneB, set_ne9 _ _ hneB, set_ne9 _ _ hneB, set_ne9 _ _ hneB, set_ne9 _ _ hneB, set_ne9 _ _ hneB, set_ne9 _ _ hneB, set_ne9 _ _ hneB]; first | exact ks | exact HK.out _ (BC8.out.alloc BC8.out.size _)))
              (first
                | (go_at_call 88; refine (HMK.out _ BC8.out).mono ?_; rintro e w4 ⟨rfl, hb4⟩
                   have D8 := Lib.hid (bth D8.out hb4 (Nat.le_refl _))
                   have BC8 := Lib.hid (BC8.out.trans (hb4.mono BC8.out.size))
                   have ks := HK.out w4 BC8.out
                   have hneB : b ≠ w4.heap.size := by have := BC8.out.size; omega
                   have N4 := Lib.hid (Blk2.new (w := w4) (t := 75) (x := .string ⟨#[]⟩) (y := .int .i64 0))
                   obtain ⟨f0, f1⟩ := N4.out.cells
                   have g0 := N4.out.soft 0
                   have g1 := N4.out.soft 1
                   clear hb4)
                | (go_at_call 88; refine (HMK.out _ (BC8.out.alloc BC8.out.size _)).mono ?_; rintro e w4 ⟨rfl, hb4⟩
                   have q4 := Blk2.below (Blk2.new (w := wq.drew) (t := 75) (x := .string ⟨#[]⟩) (y := .int .i64 0)) hb4 (by simp)
                   have Q4 : Hid (Blk2 w4 wq.heap.size 75 (.string ⟨#[]⟩) (.int .i64 0)) := q4
                   clear q4
                   obtain ⟨f0, f1⟩ := Q4.out.cells
                   have g0 := Q4.out.soft 0
                   have g1 := Q4.out.soft 1
                   have D8 := Lib.hid (bth (D8.out.alloc (Nat.le_refl _) _) hb4 (Nat.le_refl _))
                   have BC8 := Lib.hid ((BC8.out.alloc BC8.out.size _).trans (hb4.mono (BC8.out.alloc BC8.out.size _).size))
                   have ks := HK.out w4 BC8.out
                   clear hb4))
            all_goals
              clear ks
              go_wp2_with fail
              go_meet
              case rel =>
                first
                  | exact ⟨w4.heap.size, rfl, D8.out.size, Blk2.new, ((Below.drew (Below.refl _ wq)).trans D8.out).alloc D8.out.size _⟩
                  | exact ⟨wq.heap.size, rfl, Nat.le_refl _, (Q4.out.set0 _).set1 _, (((Below.drew (Below.refl _ wq)).trans D8.out).setCell (p := ⟨wq.heap.size, 0, none⟩) (Nat.le_refl _) _).setCell (p := ⟨wq.heap.size, 1, none⟩) (Nat.le_refl _) _⟩
          case rest =>
            obtain ⟨q, rfl, HNB⟩ := hcut
            obtain ⟨hq0, hQ, hBl⟩ := HNB.out
            have BC9 : Hid (Below wa.drew.heap.size wa.drew wc.drew) := (bth BC.out hBl (Nat.le_refl _)).drew
            have B9 := Lib.hid (HB8.out wc.drew BC9.out)
            have T9 := Lib.hid (HTT.out wc.drew BC9.out)
            have Q9 : Hid (Blk2 wc.drew q 75 (.string ⟨r1.toArray⟩) (.int .i64 r2)) := hQ
            have L9 : Hid (ListsS B wc.drew (sl.zip (T.map (·.2.1)) ++ [(.slice ai ins.length ci, ins)])) := HL3.out.below hBl.drew
            have hqb : b ≠ q := by have := BC.out.size; omega
            have hqw : q ≠ w.heap.size := by have := BC.out.size; omega
            have hqz : q < wc.drew.heap.size := lt_of_block hQ
            have hbz : b < wc.drew.heap.size := lt_of_block B9.out
            have HOR := Lib.hid (fun W => ownRes_any (r1, r2) W (by show r1.length ≤ 1000; omega))
            unfold resV at HOR
            simp only at HOR
            have HWN := Lib.hid (fun W hA hL hB => withNoted_any B T sl ((y : Int), ins, (r1, r2)) (.slice tl T.length tc) ai ci W T9.out.1 hA hL hi10 HSL.out hmf hB)
            unfold trV at HWN
            simp only at HWN
            have hbB9 : B ≤ wc.drew.heap.size := by have := BC9.out.size; omega
            obtain ⟨c0, c1, c2, c3, c4, c5, c6, c7⟩ := B9.out.cells
            obtain ⟨q0, q1⟩ := Q9.out.cells
            clear HNB hQ hBl
            go_wp2_with fail
            go_region_law
              (first
                | (go_simp; go_at_call 90; refine (HOR.out _).mono ?_; rintro e w5 ⟨rfl, hb5⟩
                   have HB5 := Lib.hid hb5
                   have B5 := Lib.hid (B9.out.below hb5 hbz)
                   have Q5 := Lib.hid (Q9.out.below hb5 hqz)
                   have T5 := Lib.hid (T9.out.below hb5)
                   have L5 := Lib.hid (L9.out.below hb5)
                   obtain ⟨k0, k1, k2, k3, k4, k5, k6, k7⟩ := B5.out.cells
                   obtain ⟨j0, j1⟩ := Q5.out.cells
                   clear hb5)
                | (go_simp; go_at_call 89; refine (HWN.out w5 T5.out.2.1 L5.out (Nat.le_trans hbB9 HB5.out.size)).mono ?_; rintro e w6 ⟨v6, s6, rfl, hN6, hg6⟩
                   obtain ⟨a6, e6, hv6, _, _⟩ := hN6.2.1.slice
                   subst hv6
                   have HN6 := Lib.hid hN6
                   have HG6 := Lib.hid hg6
                   have B6 := Lib.hid (B5.out.beside hg6 (T5.out.2.1.away B5.out (by decide)))
                   have Q6 := Lib.hid (Q5.out.besideR hg6 (T5.out.2.1.away Q5.out (by decide)))
                   obtain ⟨m0, m1, m2, m3, m4, m5, m6, m7⟩ := B6.out.cells
                   have z6 := B6.out.soft 6
                   clear hN6 hg6))
            all_goals
              have hb6 : Below B w w6 := ((HWW.out _ BC9.out).mono hBw).trans ((HB5.out.mono hbB9).trans (below_ownA T5.out.2.1 HG6.out (Nat.le_trans hbB9 HB5.out.size)))
              have HR6 : Hid (w6.ownsRow B 75 2 (.slice (some ⟨gq, 0, none⟩) bs.length bs.length) bs.length (RC M)) := T5.out.2.1.stays (own_belowG (HRV.out wc.drew BC9.out) HB5.out) (by decide) HG6.out
              have hrw : w.heap.size < wc.drew.heap.size := by have := BC9.out.size; omega
              have R6 : Hid (Blk2 w6 w.heap.size 75 (.string ⟨#[]⟩) (.int .i64 0)) := ((HRZ.out wc.drew BC9.out).below HB5.out hrw).besideR HG6.out (T5.out.2.1.away ((HRZ.out wc.drew BC9.out).below HB5.out hrw) (by decide))
              generalize noteL T ((y : Int), ins, r1, r2) = NT at *
              obtain ⟨w7, hw7⟩ : ∃ w7, w7 = w6.setCell ⟨b, 6, none⟩ (.slice a6 NT.length e6) := ⟨_, rfl⟩
              have HW7 : Hid (w6.setCell ⟨b, 6, none⟩ (.slice a6 NT.length e6) = w7) := by rw [hw7]; rfl
              have B7 : Hid (Blk8 w7 b 87 (.slice an ls.length cn) (.slice ao l.length co) (.slice (some ⟨gs, os, none⟩) bs.length cs) (.slice ar rs.length cr) (.slice at0 ts.length ct) (.slice (some ⟨gq, 0, none⟩) bs.length bs.length) (.slice a6 NT.length e6) (.int .i64 (n : Int))) := by rw [hw7]; exact B6.out.set6 _
              have Q7 : Hid (Blk2 w7 q 75 (.string ⟨r1.toArray⟩) (.int .i64 r2)) := by rw [hw7]; exact (Below.heap_setCell _ ⟨b, 6, none⟩ _ _ (Ne.symm hqb)).trans Q6.out
              have R7 : Hid (Blk2 w7 w.heap.size 75 (.string ⟨#[]⟩) (.int .i64 0)) := by rw [hw7]; exact (Below.heap_setCell _ ⟨b, 6, none⟩ _ _ (Ne.symm hne)).trans R6.out
              have h77 := B7.out.cells.2.2.2.2.2.2.2
              have z77 := B7.out.soft 7
              clear hw7 c0 c1 c2 c3 c4 c5 c6 c7 q0 q1 k0 k1 k2 k3 k4 k5 k6 k7 j0 j1 m0 m1 m2 m3 m4 m5 m6 m7 z6
              rw [HW7.out]
              obtain ⟨w8, hw8⟩ : ∃ w8, w8 = w7.setCell ⟨b, 7, none⟩ (.int .i64 ((n : Int) + 1)) := ⟨_, rfl⟩
              have HW8 : Hid (w7.setCell ⟨b, 7, none⟩ (.int .i64 ((n : Int) + 1)) = w8) := by rw [hw8]; rfl
              have Q8 : Hid (Blk2 w8 q 75 (.string ⟨r1.toArray⟩) (.int .i64 r2)) := by rw [hw8]; exact (Below.heap_setCell _ ⟨b, 7, none⟩ _ _ (Ne.symm hqb)).trans Q7.out
              have R8 : Hid (Blk2 w8 w.heap.size 75 (.string ⟨#[]⟩) (.int .i64 0)) := by rw [hw8]; exact (Below.heap_setCell _ ⟨b, 7, none⟩ _ _ (Ne.symm hne)).trans R7.out
              have HF8 := Lib.hid hw8
              clear hw8
              go_upto_region 11 with fail
              rw [HW8.out]
              clear h77 z77
              obtain ⟨q0, q1⟩ := Q8.out.cells
              obtain ⟨f0, f1⟩ := R8.out.cells
              have g0 := R8.out.soft 0
              have g1 := R8.out.soft 1
              go_wp2_with fail
              have hZ := (R8.out.set0 (.string ⟨r1.toArray⟩)).set1 (.int .i64 r2)
              refine bodyPost_ret (results_cellR rfl rfl (load_res hZ.cells.1 hZ.cells.2)) rfl ?_
              have hgw : gq ≠ w.heap.size := by have := (HGQ.out gq rfl).2; omega
              obtain ⟨e1, e2, e3⟩ := built_fin (u6 := .slice a6 NT.length e6) (u7 := .int .i64 ((n : Int) + 1)) (s0 := .string ⟨r1.toArray⟩) (s1 := .int .i64 r2) B6.out HR6.out HN6.out R6.out hgw hne
              rw [HW7.out, HW8.out] at e1 e2 e3
              have hf : Below B w ((((w6.setCell ⟨b, 6, none⟩ (.slice a6 NT.length e6)).setCell ⟨b, 7, none⟩ (.int .i64 ((n : Int) + 1))).setCell ⟨w.heap.size, 0, none⟩ (.string ⟨r1.toArray⟩)).setCell ⟨w.heap.size, 1, none⟩ (.int .i64 r2)) :=
                (((hb6.setCell (p := ⟨b, 6, none⟩) hbB _).setCell (p := ⟨b, 7, none⟩) hbB _).setCell (p := ⟨w.heap.size, 0, none⟩) hBw _).setCell (p := ⟨w.heap.size, 1, none⟩) hBw _
              rw [HW7.out, HW8.out] at hf
              exact ⟨(r1, r2), NT, n + 1, a6, e6, s6, rfl, HTS.out, by rw [show ((n + 1 : Nat) : Int) = (n : Int) + 1 by omega]; exact e1, e2, e3, hf, rfl⟩
        · have HTS := Lib.hid (HTF2.out _ hF)
          simp only [resO, Option.isSome, resV] at HOF
          clear HTF2 HTN2 hF c0 c1 c2 c3 c4 c5 c7
          go_wp2_with fail
          refine HOF.out.mono ?_
          rintro e w3 ⟨rfl, hb3⟩
          obtain ⟨wq, hwq⟩ : ∃ wq, wq = w3.alloc (.cells #[.string ⟨z1.toArray⟩, .int .i64 z2] 75) := ⟨_, rfl⟩
          have HWQ : Hid (w3.alloc (.cells #[.string ⟨z1.toArray⟩, .int .i64 z2] 75) = wq) := by rw [hwq]; rfl
          have Q0 : Hid (Blk2 wq w3.heap.size 75 (.string ⟨z1.toArray⟩) (.int .i64 z2)) := by rw [hwq]; exact Blk2.new
          have hbq : Below w2.heap.size w2 wq := by rw [hwq]; exact hb3.alloc hb3.size _
          have BC : Hid (Below wa.drew.heap.size wa.drew wq) := bth BC.out hbq (Nat.le_refl _)
          clear hb3 hbq hwq c6 HOF HO2
          obtain ⟨q0, q1⟩ := Q0.out.cells
          have HRB := Lib.hid (HRZ.out wq BC.out)
          obtain ⟨f0, f1⟩ := HRB.out.cells
          have g0 := HRB.out.soft 0
          have g1 := HRB.out.soft 1
          go_upto_region 6 with fail
          rw [HWQ.out]
          go_wp2_with fail
          have hZ := (HRB.out.set0 (.string ⟨z1.toArray⟩)).set1 (.int .i64 z2)
          refine bodyPost_ret (results_cellR rfl rfl (load_res hZ.cells.1 hZ.cells.2)) rfl ?_
          obtain ⟨e1, e2, e3, e4⟩ := HFIN.out wq BC.out (.string ⟨z1.toArray⟩) (.int .i64 z2)
          exact ⟨(z1, z2), T, n, tl, tc, sl, rfl, HTS.out, e1, e2, e3, e4, rfl⟩

end Go.Proofs.YtgolhfmmlanmlaaGreatDoor

/- Walks: a build with traces where a test fails, of both; the reference's whole. -/
namespace Go.Proofs.YtgolhfmmlanmlaaGreatDoor
open Go.RowKit Pth

set_option maxRecDepth 20000 in
set_option maxHeartbeats 8000000 in
theorem specTraced_no (ls : List (List Int)) (l : List Int) (bs : List Bool) (rs : List (List OpT)) (T : List TrT) (ts : List (List UInt8)) (v u x : Value) (w : World) (hp : PlanV w v ls l bs rs) (hT : RowT w u T) (hts : RowV w x (S ts)) (hx : ∀ l ∈ rs, ∀ f ∈ l, f.2.2.length ≤ maxLen) (hxT : ∀ t ∈ T, HeldT maxLen t) (hxx : ∀ x ∈ ts, x.length ≤ maxLen) (hno : (goodT ls l bs rs T && srcA ls l bs rs ts) = false) :
    Calls Tryz.prog 9 #[v, u, x] w (TracedP ([], [], 0) false w) := by
  have HV := Lib.hid hp
  obtain ⟨nv, ov, sv, rv, rfl, h1, h2, h3, h4⟩ := hp
  obtain ⟨as0, cs, rfl, hs1, hs2, hats⟩ := h3.boolsW
  obtain ⟨an, cn, rfl, hn1, hn2, hatn⟩ := h1.lists
  obtain ⟨ao, co, rfl, ho1, ho2, hato⟩ := h2.ints
  obtain ⟨ar, cr, rfl, hr1, hr2, hatr⟩ := h4.lists
  clear h1 h2 h3 h4
  unfold maxLen at hs2 hn2 ho2 hr2
  obtain ⟨wa, hwa⟩ : ∃ wa, wa = w.alloc (.cells #[.slice an ls.length cn, .slice ao l.length co, .slice as0 bs.length cs, .slice ar rs.length cr] 42) := ⟨_, rfl⟩
  have hsz : w.heap.size < wa.heap.size := by rw [hwa]; simp
  have P0 : Hid (Blk4 wa w.heap.size 42 (.slice an ls.length cn) (.slice ao l.length co) (.slice as0 bs.length cs) (.slice ar rs.length cr)) := by rw [hwa]; exact Blk4.new
  have HA : Hid (Below w.heap.size w wa) := by rw [hwa]; exact (Below.refl w.heap.size w).alloc (Nat.le_refl _) _
  have HWA : Hid (w.alloc (.cells #[.slice an ls.length cn, .slice ao l.length co, .slice as0 bs.length cs, .slice ar rs.length cr] 42) = wa) := by rw [hwa]; rfl
  have HVW : Hid (∀ W, Below wa.heap.size wa W → PlanV W (.agg #[.slice an ls.length cn, .slice ao l.length co, .slice as0 bs.length cs, .slice ar rs.length cr]) ls l bs rs) := fun W h => HV.out.below (bth HA.out h (Nat.le_refl _))
  clear hwa
  have HTR := Lib.hid hT
  obtain ⟨au, cu, rfl, hu1, hu2, _⟩ := hT.traces
  have HT := Lib.hid hts
  obtain ⟨at0, ct, rfl, ht1, ht2, _⟩ := hts.texts
  unfold maxLen at hu2 ht2
  obtain ⟨b, hb⟩ : ∃ b, goodT ls l bs rs T = b := ⟨_, rfl⟩
  obtain ⟨d, hd⟩ : ∃ d, srcA ls l bs rs ts = d := ⟨_, rfl⟩
  rw [hb, hd] at hno
  have HCG := Lib.hid (specGood9_b hb _ _ wa (HV.out.below HA.out) (HTR.out.below HA.out) hx hxT)
  have HCS := Lib.hid (fun W (h : Below w.heap.size w W) => specSrc_any ls l bs rs ts _ _ W (HV.out.below h) (HT.out.below h) hx hxx)
  rw [hd] at HCS
  obtain ⟨c0, c1, c2, c3⟩ := P0.out.cells
  clear hats hatn hato hatr hT hts hx hxT hxx hb hd
  rcases b with _ | _
  · clear HCS hno
    go_enter Tryz.func9, Tryz.ntmps9
    go_wp2_with fail
    rw [HWA.out]
    refine HCG.out.mono ?_
    rintro e w1 ⟨rfl, hb1⟩
    have HW1 := Lib.hid (bth HA.out hb1 (Nat.le_refl _))
    clear hb1 c0 c1 c2 c3
    go_wp2_with fail
    (try simp only [Exit.inBlock, Exit.then])
    refine bodyPost_ret (results_tmp4 rfl _ _ _) rfl ?_
    exact ⟨_, _, [], rfl, none_ownR _ _, OwnT.empty _ _, HW1.out⟩
  · have hdf : d = false := by simpa using hno
    subst hdf
    clear hno
    go_enter Tryz.func9, Tryz.ntmps9
    go_wp2_with fail
    rw [HWA.out]
    refine HCG.out.mono ?_
    rintro e w1 ⟨rfl, hb1⟩
    have HW1 := Lib.hid (bth HA.out hb1 (Nat.le_refl _))
    have K1 := Lib.hid hb1
    clear hb1 c0 c1 c2 c3
    obtain ⟨c0, c1, c2, c3⟩ := (P0.out.below K1.out hsz).cells
    go_wp2_with fail
    refine (HCS.out w1 HW1.out).mono ?_
    rintro e w2 ⟨rfl, hb2⟩
    have HW2 := Lib.hid (bth HW1.out hb2 (Nat.le_refl _))
    clear hb2 c0 c1 c2 c3
    go_wp2_with fail
    (try simp only [Exit.inBlock, Exit.then])
    refine bodyPost_ret (results_tmp4 rfl _ _ _) rfl ?_
    exact ⟨_, _, [], rfl, none_ownR _ _, OwnT.empty _ _, HW2.out⟩

set_option maxRecDepth 20000 in
set_option maxHeartbeats 8000000 in
theorem implTraced_no (ls : List (List Int)) (l : List Int) (bs : List Bool) (rs : List (List OpT)) (T : List TrT) (ts : List (List UInt8)) (v u x : Value) (w : World) (hp : PlanV w v ls l bs rs) (hT : RowT w u T) (hts : RowV w x (S ts)) (hx : ∀ l ∈ rs, ∀ f ∈ l, f.2.2.length ≤ maxLen) (hxT : ∀ t ∈ T, HeldT maxLen t) (hxx : ∀ x ∈ ts, x.length ≤ maxLen) (hno : (goodT ls l bs rs T && srcA ls l bs rs ts) = false) :
    Calls Tryz.prog 13 #[v, u, x] w (TracedP ([], [], 0) false w) := by
  have HV := Lib.hid hp
  obtain ⟨nv, ov, sv, rv, rfl, h1, h2, h3, h4⟩ := hp
  obtain ⟨as0, cs, rfl, hs1, hs2, hats⟩ := h3.boolsW
  obtain ⟨an, cn, rfl, hn1, hn2, hatn⟩ := h1.lists
  obtain ⟨ao, co, rfl, ho1, ho2, hato⟩ := h2.ints
  obtain ⟨ar, cr, rfl, hr1, hr2, hatr⟩ := h4.lists
  clear h1 h2 h3 h4
  unfold maxLen at hs2 hn2 ho2 hr2
  obtain ⟨wa, hwa⟩ : ∃ wa, wa = w.alloc (.cells #[.slice an ls.length cn, .slice ao l.length co, .slice as0 bs.length cs, .slice ar rs.length cr] 42) := ⟨_, rfl⟩
  have hsz : w.heap.size < wa.heap.size := by rw [hwa]; simp
  have P0 : Hid (Blk4 wa w.heap.size 42 (.slice an ls.length cn) (.slice ao l.length co) (.slice as0 bs.length cs) (.slice ar rs.length cr)) := by rw [hwa]; exact Blk4.new
  have HA : Hid (Below w.heap.size w wa) := by rw [hwa]; exact (Below.refl w.heap.size w).alloc (Nat.le_refl _) _
  have HWA : Hid (w.alloc (.cells #[.slice an ls.length cn, .slice ao l.length co, .slice as0 bs.length cs, .slice ar rs.length cr] 42) = wa) := by rw [hwa]; rfl
  have HVW : Hid (∀ W, Below wa.heap.size wa W → PlanV W (.agg #[.slice an ls.length cn, .slice ao l.length co, .slice as0 bs.length cs, .slice ar rs.length cr]) ls l bs rs) := fun W h => HV.out.below (bth HA.out h (Nat.le_refl _))
  clear hwa
  have HTR := Lib.hid hT
  obtain ⟨au, cu, rfl, hu1, hu2, _⟩ := hT.traces
  have HT := Lib.hid hts
  obtain ⟨at0, ct, rfl, ht1, ht2, _⟩ := hts.texts
  unfold maxLen at hu2 ht2
  obtain ⟨b, hb⟩ : ∃ b, goodT ls l bs rs T = b := ⟨_, rfl⟩
  obtain ⟨d, hd⟩ : ∃ d, srcA ls l bs rs ts = d := ⟨_, rfl⟩
  rw [hb, hd] at hno
  have HCG := Lib.hid (implGood9_b hb _ _ wa (HV.out.below HA.out) (HTR.out.below HA.out) hx hxT)
  have HCS := Lib.hid (fun W (h : Below w.heap.size w W) => implSrc_any ls l bs rs ts _ _ W (HV.out.below h) (HT.out.below h) hx hxx)
  rw [hd] at HCS
  obtain ⟨c0, c1, c2, c3⟩ := P0.out.cells
  clear hats hatn hato hatr hT hts hx hxT hxx hb hd
  rcases b with _ | _
  · clear HCS hno
    go_enter Tryz.func13, Tryz.ntmps13
    go_wp2_with fail
    rw [HWA.out]
    refine HCG.out.mono ?_
    rintro e w1 ⟨rfl, hb1⟩
    have HW1 := Lib.hid (bth HA.out hb1 (Nat.le_refl _))
    clear hb1 c0 c1 c2 c3
    go_wp2_with fail
    (try simp only [Exit.inBlock, Exit.then])
    refine bodyPost_ret (results_tmp4 rfl _ _ _) rfl ?_
    exact ⟨_, _, [], rfl, none_ownR _ _, OwnT.empty _ _, HW1.out⟩
  · have hdf : d = false := by simpa using hno
    subst hdf
    clear hno
    go_enter Tryz.func13, Tryz.ntmps13
    go_wp2_with fail
    rw [HWA.out]
    refine HCG.out.mono ?_
    rintro e w1 ⟨rfl, hb1⟩
    have HW1 := Lib.hid (bth HA.out hb1 (Nat.le_refl _))
    have K1 := Lib.hid hb1
    clear hb1 c0 c1 c2 c3
    obtain ⟨c0, c1, c2, c3⟩ := (P0.out.below K1.out hsz).cells
    go_wp2_with fail
    refine (HCS.out w1 HW1.out).mono ?_
    rintro e w2 ⟨rfl, hb2⟩
    have HW2 := Lib.hid (bth HW1.out hb2 (Nat.le_refl _))
    clear hb2 c0 c1 c2 c3
    go_wp2_with fail
    (try simp only [Exit.inBlock, Exit.then])
    refine bodyPost_ret (results_tmp4 rfl _ _ _) rfl ?_
    exact ⟨_, _, [], rfl, none_ownR _ _, OwnT.empty _ _, HW2.out⟩

theorem specTraced_any (ls : List (List Int)) (l : List Int) (bs : List Bool) (rs : List (List OpT)) (T : List TrT) (ts : List (List UInt8)) (v u x : Value) (w : World) (hp : PlanV w v ls l bs rs) (hT : RowT w u T) (hts : RowV w x (S ts)) (hx : ∀ l ∈ rs, ∀ f ∈ l, f.2.2.length ≤ maxLen) (hxT : ∀ t ∈ T, HeldT maxLen t) (hxx : ∀ x ∈ ts, x.length ≤ maxLen) :
    Calls Tryz.prog 9 #[v, u, x] w (TracedP (tracedA ls l bs rs T ts) (goodT ls l bs rs T && srcA ls l bs rs ts) w) := by
  unfold tracedA
  rcases h : (goodT ls l bs rs T && srcA ls l bs rs ts) with _ | _
  · exact specTraced_no ls l bs rs T ts v u x w hp hT hts hx hxT hxx h
  · rw [Bool.and_eq_true] at h
    exact specTraced_yes ls l bs rs T ts v u x w hp hT hts hx hxT hxx h.1 h.2
theorem totT_few (T : List TrT) (h : ShortT T) : totT T ≤ 10 * T.length := by
  induction T with
  | nil => simp [totT]
  | cons t r ih =>
    have h1 := (h t (by simp)).2.1
    have h2 := ih (fun x hx => h x (by simp [hx]))
    unfold totT at h2 ⊢
    simp only [List.map_cons, List.sum_cons, List.length_cons]
    omega
/-- What a build comes to is short. -/
theorem traced_bound (ls : List (List Int)) (l : List Int) (bs : List Bool) (rs : List (List OpT)) (T : List TrT) (ts : List (List UInt8)) : (tracedA ls l bs rs T ts).1.length ≤ 1000 ∧ (tracedA ls l bs rs T ts).2.1.length + totT (tracedA ls l bs rs T ts).2.1 ≤ 1000 ∧ (tracedA ls l bs rs T ts).2.2 ≤ 1000 := by
  unfold tracedA
  rcases h : (goodT ls l bs rs T && srcA ls l bs rs ts) with _ | _
  · simp [totT]
  · rw [Bool.and_eq_true] at h
    have hpl := (src_parts h.2).1
    have hG := (plan_parts hpl).1
    have hlo := hG.same
    have hhi := hG.high
    have hbl := (plan_parts hpl).2.1
    have hon := traced_way (ts := ts) hpl (src_len h.2) l (fun j hj => by have := hG.tasks _ hj; omega) (onWay_start h.1)
    have hr := traced_runs (ls := ls) (bs := bs) (rs := rs) (ts := ts) l (List.replicate bs.length noRes, T, 0)
    have h1 := hon.len
    have h2 := totT_few _ (short_of hon.all)
    have h3 := hon.few
    unfold tracedM
    simp only [if_true]
    simp only at hr
    refine ⟨?_, ?_, ?_⟩ <;> omega

end Go.Proofs.YtgolhfmmlanmlaaGreatDoor
