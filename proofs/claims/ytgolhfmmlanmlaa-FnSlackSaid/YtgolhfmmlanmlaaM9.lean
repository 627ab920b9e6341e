/- Texts of one claim, joined in their order. -/
import Derived.Test.YtgolhfmmlanmlaaM8

/- Walks: the reference's tails. -/
namespace Go.Proofs.Ytgolhfmmlanmlaa
open Go.RowKit Pth

set_option maxRecDepth 20000 in
set_option maxHeartbeats 8000000 in
theorem l10Tails_any (ls : List (List Int)) (l ts : List Int) (v u : Value) (w : World) (hst : GraphV w v ls l) (hrow : RowV w u (I ts)) (hG : GoodG ls l) (hT : TimesT ls.length ts) :
    Calls Try.prog 46 #[v, u] w (IntsPost w.heap.size (tailsL ls l ts) w) := by
  have HV := Lib.hid hst
  have HR := Lib.hid hrow
  obtain ⟨nv, ov, rfl, h1, h2⟩ := hst
  obtain ⟨an, cn, rfl, hn1, hn2, hat⟩ := h1.lists
  obtain ⟨ao, co, rfl, ho1, ho2, hao⟩ := h2.ints
  obtain ⟨tm, tc, hu, ht1, ht2, htt⟩ := hrow.ints
  rw [hT.len] at hu ht1
  subst hu
  clear h1 h2 hrow
  unfold maxLen at hn2 ho2 ht2
  have HAT := Lib.hid hat
  have HAO := Lib.hid hao
  have HTT := Lib.hid htt
  clear hat hao htt
  obtain ⟨wa, hwa⟩ : ∃ wa, wa = w.alloc (.cells #[.slice an ls.length cn, .slice ao l.length co] 26) := ⟨_, rfl⟩
  have P0 : Hid (Blk2 wa w.heap.size 26 (.slice an ls.length cn) (.slice ao l.length co)) := by rw [hwa]; exact Blk2.new
  have HA : Hid (Below w.heap.size w wa) := by rw [hwa]; exact (Below.refl w.heap.size w).alloc (Nat.le_refl _) _
  have hsa : wa.heap.size = w.heap.size + 1 := by rw [hwa]; simp
  have HSA := Lib.hid hsa
  have hsz : w.heap.size < wa.heap.size := by omega
  have HWA := Lib.hid hwa
  have h10 := hG.high
  have hl10 : l.length ≤ 10 := by have := hG.same; omega
  have HIN := Lib.hid (good_inE hG)
  have HGG := Lib.hid hG
  have HTM := Lib.hid hT
  have htn : ts.length = ls.length := hT.len
  obtain ⟨qa, qc, w2, run2, o2, b2⟩ := lit_row ts tm tc wa _ rfl (by have := HR.out.below HA.out; rw [htn]; exact this) (by omega) 24
  rw [htn] at run2 o2
  have HRUN := Lib.hid run2
  have HO0 := Lib.hid o2
  have HB0 := Lib.hid b2
  have hq : ∃ gq cq, qa = some ⟨gq, 0, none⟩ ∧ wa.heap.size ≤ gq ∧ cq = qc := by
    rcases o2.2 with ⟨h0, h1⟩ | ⟨g, cap, cur, hv, hg, _⟩
    · have := HGG.out.low; omega
    · injection hv with h1 _ h3
      exact ⟨g, qc, h1, hg, rfl⟩
  obtain ⟨gq, cq, rfl, hgq, rfl⟩ := hq
  have hgq2 : wa.heap.size ≤ gq := hgq
  obtain ⟨c0, c1⟩ := (P0.out.below HB0.out hsz).cells
  clear hG hT hsa run2 o2 b2 htn
  clear hwa
  go_enter Try.func46, Try.ntmps46
  go_upto_region 1 with fail
  rw [← HWA.out]
  go_upto_region 2 with (at_builtin; refine wpList_runApp rfl _ _ rfl rfl rfl HRUN.out ?_)
  clear HRUN
  go_wp2_with fail
  clear c0 c1
  go_loopw [6] (fun i wr => ∃ (k : Nat) (z : Int), k ≤ l.length ∧ Hid (z = (l.length : Int) - 1 - k) ∧ i = .int .i64 z ∧ Hid (wr.ownsRow wa.heap.size 3 1 (.slice (some ⟨gq, 0, none⟩) ls.length cq) ls.length (I (tailR ls ts (l.reverse.take k)))) ∧ Hid (Below wa.heap.size wa wr)) (fun i _ => (intOf i + 1).toNat)
  case atStart => exact ⟨0, _, Nat.zero_le _, by show _ = _; omega, rfl, HO0, HB0⟩
  case round =>
    clear HO0 HB0
    obtain ⟨k, z, hk, HZ, rfl, HO, HB⟩ := hrel
    by_cases hlt : k < l.length
    · obtain ⟨p, hp⟩ : ∃ p : Nat, z = (p : Int) := ⟨z.toNat, by have := HZ.out; omega⟩
      subst hp
      have hpl : p < l.length := by have := HZ.out; omega
      have hge : decide ((p : Int) ≥ 0) = true := by simp
      have hkr : k < l.reverse.length := by rw [List.length_reverse]; exact hlt
      have hrk : l.reverse[k] = l[p] := by
        rw [List.getElem_reverse]
        congr 1
        have := HZ.out; omega
      obtain ⟨g, o, hgo, hg, hcell0⟩ := HAO.out p hpl
      subst hgo
      obtain ⟨un, hun⟩ : ∃ un : Nat, l[p] = un := ⟨l[p].toNat, by have := HGG.out.tasks l[p] (List.getElem_mem hpl); omega⟩
      have hul : un < ls.length := by have := HGG.out.tasks l[p] (List.getElem_mem hpl); omega
      have hul2 : (un : Int) < (ls.length : Int) := by omega
      have hcell : wr.cell? ⟨g, o + p, none⟩ = some (.int .i64 (un : Int)) := by rw [(bth HA.out HB.out (Nat.le_refl _)).cell (p := ⟨g, o + p, none⟩) hg, hcell0, hun]
      obtain ⟨d0, d1⟩ := (P0.out.below HB.out hsz).cells
      obtain ⟨g1, o1, a2, c2, hgn, hg1, hcell1, hrow⟩ := HAT.out un hul
      subst hgn
      have hcn : wr.cell? ⟨g1, o1 + un, none⟩ = some (.slice a2 ls[un].length c2) := ((bth HA.out HB.out (Nat.le_refl _)).cell (p := ⟨g1, o1 + un, none⟩) hg1).trans hcell1
      have HRW : Hid (∀ W, Below w.heap.size w W → RowV W (.slice a2 ls[un].length c2) (I ls[un])) := fun W h => hrow.below h
      have hnl : ls[un].length ≤ c2 ∧ c2 ≤ 2 ^ 63 - 1 := by
        obtain ⟨_, _, h, h', h4, _⟩ := hrow.ints
        unfold maxLen at h4
        injection h with _ _ h3; omega
      obtain ⟨hnl, hc2⟩ := hnl
      have HSM : Hid (∀ m y, 0 ≤ y ∧ y < (ls.length : Int) → 1 ≤ atI (tail1 ts (un : Int) (tailR ls ts (l.reverse.take k)) (ls[un].take m)) y ∧ atI (tail1 ts (un : Int) (tailR ls ts (l.reverse.take k)) (ls[un].take m)) y ≤ 1200) := fun m y hy => by
        have := tail1_small HGG.out.toP HTM.out (m := m) hkr hy
        rw [hrk, hun, needsAt_get hul] at this
        exact this
      have HBK : Hid (tailR ls ts (l.reverse.take (k + 1)) = tail1 ts (un : Int) (tailR ls ts (l.reverse.take k)) ls[un]) := by
        show _ = _
        rw [List.take_succ_eq_append_getElem hkr, tailR_snoc, hrk, hun, needsAt_get hul]
      have hbk : (tailR ls ts (l.reverse.take k)).length = ls.length := by rw [tailR_len, HTM.out.len]
      generalize tailR ls ts (l.reverse.take k) = bk at *
      have HBKL := Lib.hid hbk
      clear hcell0 hcell1 hrow hbk hun hrk hkr
      go_wp2_with fail
      clear hcell hcn d0 d1
      go_loopw [32] (fun i wz => ∃ m : Nat, m ≤ ls[un].length ∧ i = .int .i64 (m : Int) ∧ Hid (wz.ownsRow wa.heap.size 3 1 (.slice (some ⟨gq, 0, none⟩) ls.length cq) ls.length (I (tail1 ts (un : Int) bk (ls[un].take m)))) ∧ Hid (Below wa.heap.size wa wz)) (fun i _ => ls[un].length - (intOf i).toNat)
      case atStart => exact ⟨0, Nat.zero_le _, rfl, HO, HB⟩
      case round =>
        clear HO HB
        obtain ⟨m, hm, rfl, HO, HB⟩ := hrel
        by_cases hlt2 : m < ls[un].length
        · have hxm := HIN.out un hul ls[un][m] (List.getElem_mem hlt2)
          obtain ⟨kn, hkn⟩ : ∃ kn : Nat, ls[un][m] = kn := ⟨ls[un][m].toNat, by omega⟩
          have hkl : kn < ls.length := by omega
          have hkl2 : (kn : Int) < (ls.length : Int) := by omega
          obtain ⟨gr, or, hra, hcr⟩ : ∃ gr or, a2 = some ⟨gr, or, none⟩ ∧ wr.cell? ⟨gr, or + m, none⟩ = some (.int .i64 (kn : Int)) := by
            obtain ⟨aa, cc, h, _, _, hc⟩ := (HRW.out wr (bth HA.out HB.out (Nat.le_refl _))).ints
            injection h with h1 _ _
            obtain ⟨gr, or, h2, _, h3⟩ := hc m hlt2
            exact ⟨gr, or, by rw [h1, h2], by rw [h3, hkn]⟩
          subst hra
          have htl : kn < ts.length := by rw [HTM.out.len]; exact hkl
          obtain ⟨tg, tf, hto, htg, htc0⟩ := HTT.out kn htl
          subst hto
          have htc : wr.cell? ⟨tg, tf + kn, none⟩ = some (.int .i64 (atI ts (kn : Int))) := by rw [(bth HA.out HB.out (Nat.le_refl _)).cell (p := ⟨tg, tf + kn, none⟩) htg, htc0, atI_get htl]
          have htb := HTM.out.at (y := (kn : Int)) (by omega)
          have hs1 := HSM.out m (un : Int) (by omega)
          have hs2 := HSM.out m (kn : Int) (by omega)
          have hlo : (tail1 ts (un : Int) bk (ls[un].take m)).length = ls.length := by rw [tail1_len, HBKL.out]
          have HE : Hid (tail1 ts (un : Int) bk (ls[un].take (m + 1)) = (tail1 ts (un : Int) bk (ls[un].take m)).set kn (if atI (tail1 ts (un : Int) bk (ls[un].take m)) (kn : Int) > atI ts (kn : Int) + atI (tail1 ts (un : Int) bk (ls[un].take m)) (un : Int) then atI (tail1 ts (un : Int) bk (ls[un].take m)) (kn : Int) else atI ts (kn : Int) + atI (tail1 ts (un : Int) bk (ls[un].take m)) (un : Int))) := by
            show _ = _
            rw [List.take_succ_eq_append_getElem hlt2, tail1_snoc, hkn]
            rfl
          generalize tail1 ts (un : Int) bk (ls[un].take m) = bo at *
          have hcu : wr.cell? ⟨gq, un, none⟩ = some (.int .i64 (atI bo (un : Int))) := by rw [HO.out.cellAt un (by omega), I_atE (by omega), atI_get (by omega)]
          have hck : wr.cell? ⟨gq, kn, none⟩ = some (.int .i64 (atI bo (kn : Int))) := by rw [HO.out.cellAt kn (by omega), I_atE (by omega), atI_get (by omega)]
          have hf2 := HO.out.frozenAt kn
          obtain ⟨r, hr⟩ : ∃ r, (if atI bo (kn : Int) > atI ts (kn : Int) + atI bo (un : Int) then atI bo (kn : Int) else atI ts (kn : Int) + atI bo (un : Int)) = r := ⟨_, rfl⟩
          rw [hr] at HE
          have HM := Lib.hid (fun W => most_any (atI bo (kn : Int)) (atI ts (kn : Int) + atI bo (un : Int)) r W hr)
          have hst := HO.out.stored kn (.int .i64 r)
          rw [I_setE, ← HE.out] at hst
          have HO1 := Lib.hid hst.1
          have HB1 := Lib.hid (HB.out.trans (only_below hst.2 hgq2 HB.out.size))
          clear hst HE hlo hkn hxm HO HB hr htc0
          generalize atI bo (un : Int) = cu at *
          generalize atI bo (kn : Int) = ck at *
          generalize atI ts (kn : Int) = tt at *
          have hwr : IntKind.i64.wrap (tt + cu) = tt + cu := by rw [IntKind.wrap_i64]; omega
          go_wp2_with fail
          go_region_with (go_at_call 76; refine (HM.out _).mono ?_; rintro e w9 ⟨rfl, rfl⟩)
          all_goals
            go_wp2_with fail
            go_roundw
            case rel => exact ⟨m + 1, by omega, by go_num, HO1, Lib.hid (Below.drew HB1.out)⟩
            case measure => simp [intOf]; omega
        · rw [List.take_of_length_le (by omega), ← HBK.out] at HO
          have hs1 : IntKind.i64.wrap ((p : Int) - 1) = (p : Int) - 1 := by rw [IntKind.wrap_i64]; omega
          go_wp2_with fail
          go_roundw
          case rel => exact ⟨k + 1, (p : Int) - 1, by omega, by have := HZ.out; show _ = _; omega, rfl, HO, HB⟩
          case measure => simp [intOf]
    · have hz : z = -1 := by have := HZ.out; omega
      subst hz
      rw [List.take_of_length_le (by rw [List.length_reverse]; omega), tailR_is HGG.out.toP HTM.out] at HO
      go_wp2_with fail
      go_ret
      exact ⟨_, rfl, by rw [tailsL_len]; exact own_base HO.out HA.out.size, bth HA.out HB.out (Nat.le_refl _)⟩

set_option maxRecDepth 20000 in
set_option maxHeartbeats 8000000 in
theorem specTails_any (ls : List (List Int)) (l ts : List Int) (v u : Value) (w : World) (hst : GraphV w v ls l) (hrow : RowV w u (I ts)) :
    Calls Try.prog 20 #[v, u] w (ListOk (ifL (timesG ls l ts) (tailsL ls l ts)) (timesG ls l ts) w) := by
  have HV := Lib.hid hst
  have HR := Lib.hid hrow
  obtain ⟨nv, ov, rfl, h1, h2⟩ := hst
  obtain ⟨an, cn, rfl, hn1, hn2, hat⟩ := h1.lists
  obtain ⟨ao, co, rfl, ho1, ho2, hao⟩ := h2.ints
  obtain ⟨tm, tc, rfl, ht1, ht2, htt⟩ := hrow.ints
  clear h1 h2 hrow
  unfold maxLen at hn2 ho2 ht2
  have HAT := Lib.hid hat
  have HAO := Lib.hid hao
  have HTT := Lib.hid htt
  clear hat hao htt
  obtain ⟨wa, hwa⟩ : ∃ wa, wa = w.alloc (.cells #[.slice an ls.length cn, .slice ao l.length co] 26) := ⟨_, rfl⟩
  have P0 : Hid (Blk2 wa w.heap.size 26 (.slice an ls.length cn) (.slice ao l.length co)) := by rw [hwa]; exact Blk2.new
  have HA : Hid (Below w.heap.size w wa) := by rw [hwa]; exact (Below.refl w.heap.size w).alloc (Nat.le_refl _) _
  have hsa : wa.heap.size = w.heap.size + 1 := by rw [hwa]; simp
  have HSA := Lib.hid hsa
  have hsz : w.heap.size < wa.heap.size := by omega
  have HWA := Lib.hid hwa
  obtain ⟨c0, c1⟩ := P0.out.cells
  have HC := l10Times_any ls l ts _ _ wa (HV.out.below HA.out) (HR.out.below HA.out)
  clear hwa hsa
  rcases hT : timesG ls l ts with _ | _
  · rw [hT] at HC
    have HCC := Lib.hid HC
    clear HC hT
    go_enter Try.func20, Try.ntmps20
    go_wp2_with fail
    rw [← HWA.out]
    refine HCC.out.mono ?_
    rintro e w1 ⟨rfl, hb1⟩
    have HB1 := Lib.hid (bth HA.out hb1 (Nat.le_refl _))
    clear hb1 c0 c1
    go_wp2_with fail
    go_ret2
    exact ⟨_, rfl, none_ownZ _ _ _, HB1.out⟩
  · rw [hT] at HC
    have HCC := Lib.hid HC
    obtain ⟨hG, hTT⟩ := timesG_yes hT
    have HG := Lib.hid hG
    have HTM := Lib.hid hTT
    clear HC hT hG hTT
    go_enter Try.func20, Try.ntmps20
    go_wp2_with fail
    rw [← HWA.out]
    refine HCC.out.mono ?_
    rintro e w1 ⟨rfl, hb1⟩
    have HB1 := Lib.hid (bth HA.out hb1 (Nat.le_refl _))
    have d0 := (P0.out.below hb1 hsz).cells.1
    have d1 := (P0.out.below hb1 hsz).cells.2
    have HU := Lib.hid (l10Tails_any ls l ts _ _ w1 (HV.out.below HB1.out) (HR.out.below HB1.out) HG.out HTM.out)
    clear hb1 c0 c1
    go_wp2_with fail
    refine HU.out.mono ?_
    rintro e w2 ⟨v2, rfl, ho, hb2⟩
    have HO2 := Lib.hid (own_base ho HB1.out.size)
    have HB2 := Lib.hid (bth HB1.out hb2 (Nat.le_refl _))
    clear ho hb2
    go_wp2_with fail
    go_ret2
    exact ⟨_, rfl, HO2.out, HB2.out⟩

end Go.Proofs.Ytgolhfmmlanmlaa

/- What chapter 10 answers is short. -/
namespace Go.Proofs.Ytgolhfmmlanmlaa
open Go.RowKit Pth

theorem ifL_short {ls : List (List Int)} {l ts x : List Int} (h : x.length ≤ ls.length ∨ x.length ≤ 1000) : (ifL (timesG ls l ts) x).length ≤ 1000000 := by
  rcases hT : timesG ls l ts with _ | _
  · show ([] : List Int).length ≤ _; simp
  · show x.length ≤ _
    have := (timesG_yes hT).1.high
    omega
theorem endsL_short (ls : List (List Int)) (l ts : List Int) : (ifL (timesG ls l ts) (endsL ls l ts)).length ≤ 1000000 := ifL_short (.inl (by rw [endsL_len]; exact Nat.le_refl _))
theorem tailsL_short (ls : List (List Int)) (l ts : List Int) : (ifL (timesG ls l ts) (tailsL ls l ts)).length ≤ 1000000 := ifL_short (.inl (by rw [tailsL_len]; exact Nat.le_refl _))
theorem latestL_short (ls : List (List Int)) (l ts : List Int) : (ifL (timesG ls l ts) (latestL ls l ts)).length ≤ 1000000 := ifL_short (.inl (by rw [latestL_len]; exact Nat.le_refl _))
theorem slackL_short (ls : List (List Int)) (l ts : List Int) : (ifL (timesG ls l ts) (slackL ls l ts)).length ≤ 1000000 := ifL_short (.inl (by rw [slackL_len]; exact Nat.le_refl _))
theorem wayT_short (ls : List (List Int)) (l ts : List Int) : (ifL (timesG ls l ts) (wayT ls l ts)).length ≤ 1000000 := ifL_short (.inr (wayT_len _ _ _))
end Go.Proofs.Ytgolhfmmlanmlaa
