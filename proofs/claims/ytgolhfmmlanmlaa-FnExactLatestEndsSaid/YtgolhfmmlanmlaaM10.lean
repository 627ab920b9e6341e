/- Texts of one claim, joined in their order. -/
import Derived.Test.YtgolhfmmlanmlaaM9
import Derived.Test.YtgolhfmmlanmlaaM5
import Derived.Test.YtgolhfmmlanmlaaM8

/- Walks: the reference's latest ends and slack. -/
namespace Go.Proofs.Ytgolhfmmlanmlaa
open Go.RowKit Pth

set_option maxRecDepth 20000 in
set_option maxHeartbeats 8000000 in
theorem specLatest_any (ls : List (List Int)) (l ts : List Int) (v u : Value) (w : World) (hst : GraphV w v ls l) (hrow : RowV w u (I ts)) :
    Calls Try.prog 25 #[v, u] w (ListNOk (ifL (timesG ls l ts) (latestL ls l ts)) (ifN (timesG ls l ts) (endT (tailsL ls l ts))) (timesG ls l ts) w) := by
  have HV := Lib.hid hst
  have HR := Lib.hid hrow
  obtain ⟨nv, ov, rfl, h1, h2⟩ := hst
  obtain ⟨an, cn, rfl, hn1, hn2, hat⟩ := h1.lists
  obtain ⟨ao, co, rfl, ho1, ho2, hao⟩ := h2.ints
  obtain ⟨tm, tc, rfl, ht1, ht2, htt⟩ := hrow.ints
  clear h1 h2 hrow
  unfold maxLen at hn2 ho2 ht2
  have HAT := Lib.hid hat
  have HAO := Lib.hid hao
  have HTT := Lib.hid htt
  clear hat hao htt
  obtain ⟨wa, hwa⟩ : ∃ wa, wa = w.alloc (.cells #[.slice an ls.length cn, .slice ao l.length co] 26) := ⟨_, rfl⟩
  have P0 : Hid (Blk2 wa w.heap.size 26 (.slice an ls.length cn) (.slice ao l.length co)) := by rw [hwa]; exact Blk2.new
  have HA : Hid (Below w.heap.size w wa) := by rw [hwa]; exact (Below.refl w.heap.size w).alloc (Nat.le_refl _) _
  have hsa : wa.heap.size = w.heap.size + 1 := by rw [hwa]; simp
  have HSA := Lib.hid hsa
  have hsz : w.heap.size < wa.heap.size := by omega
  have HWA := Lib.hid hwa
  obtain ⟨c0, c1⟩ := P0.out.cells
  have HC := l10Times_any ls l ts _ _ wa (HV.out.below HA.out) (HR.out.below HA.out)
  clear hwa hsa
  rcases hT : timesG ls l ts with _ | _
  · rw [hT] at HC
    have HCC := Lib.hid HC
    clear HC hT
    go_enter Try.func25, Try.ntmps25
    go_wp2_with fail
    rw [← HWA.out]
    refine HCC.out.mono ?_
    rintro e w1 ⟨rfl, hb1⟩
    have HB1 := Lib.hid (bth HA.out hb1 (Nat.le_refl _))
    clear hb1 c0 c1
    go_wp2_with fail
    go_ret3
    exact ⟨_, rfl, none_ownZ _ _ _, HB1.out⟩
  · rw [hT] at HC
    have HCC := Lib.hid HC
    obtain ⟨hG, hTT⟩ := timesG_yes hT
    have HG := Lib.hid hG
    have HTM := Lib.hid hTT
    clear HC hT hG hTT
    go_enter Try.func25, Try.ntmps25
    go_wp2_with fail
    rw [← HWA.out]
    refine HCC.out.mono ?_
    rintro e w1 ⟨rfl, hb1⟩
    have HB1 := Lib.hid (bth HA.out hb1 (Nat.le_refl _))
    have P1 := Lib.hid (P0.out.below hb1 hsz)
    have hsz1 := Nat.lt_of_lt_of_le hsz hb1.size
    obtain ⟨d0, d1⟩ := P1.out.cells
    have HU := Lib.hid (l10Ends_any ls l ts _ _ w1 (HV.out.below HB1.out) (HR.out.below HB1.out) HG.out HTM.out)
    clear hb1 c0 c1
    go_wp2_with fail
    refine HU.out.mono ?_
    rintro e w2 ⟨v2, rfl, ho2', hb2⟩
    have HB2 := Lib.hid (bth HB1.out hb2 (Nat.le_refl _))
    have P2 := Lib.hid (P1.out.below hb2 hsz1)
    have hsz2 := Nat.lt_of_lt_of_le hsz1 hb2.size
    have HE := l10End_any (endsL ls l ts) v2 w2 (RowV.of_own ho2')
    rw [end_same HG.out.toP HTM.out] at HE
    have HEE := Lib.hid HE
    obtain ⟨qa, qc, hq⟩ := own_slice ho2'
    subst hq
    clear ho2' hb2 d0 d1 HE
    obtain ⟨d0, d1⟩ := P2.out.cells
    have HU2 := Lib.hid (l10Tails_any ls l ts _ _ w2 (HV.out.below HB2.out) (HR.out.below HB2.out) HG.out HTM.out)
    have hea := end_at HG.out.toP HTM.out
    have HPW : Hid (∀ k : Nat, k < ls.length → IntKind.i64.wrap (IntKind.i64.wrap (endT (tailsL ls l ts) - atI (tailsL ls l ts) (k : Int)) + atI ts (k : Int)) = atI (latestL ls l ts) (k : Int)) := fun k hk => by
      have hkr : 0 ≤ (k : Int) ∧ (k : Int) < (ls.length : Int) := by omega
      have h1 := latest_at HG.out.toP HTM.out hkr
      have h2 := tails_at HG.out.toP HTM.out hkr
      have h3 := HTM.out.at hkr
      rw [h1.1]
      simp only [IntKind.wrap_i64]
      omega
    have HXL := Lib.hid (tailsL_len ls l ts)
    have HYL := Lib.hid HTM.out.len
    have HML := Lib.hid (latestL_len ls l ts)
    have h10 := HG.out.high
    generalize endT (tailsL ls l ts) = E at *
    generalize (endsL ls l ts).length = n1 at *
    go_wp2_with fail
    refine HEE.out.mono ?_
    rintro e w3 ⟨rfl, rfl⟩
    go_wp2_with fail
    refine HU2.out.mono ?_
    rintro e w4 ⟨v4, rfl, ho4', hb4⟩
    have K4 := Lib.hid hb4
    have HB4 := Lib.hid (bth HB2.out hb4 (Nat.le_refl _))
    obtain ⟨xa, xc, hv4, hx1, hx2, hxt⟩ := (RowV.of_own ho4').ints
    rw [HXL.out] at hv4 hx1
    subst hv4
    unfold maxLen at hx2
    have HLT := Lib.hid hxt
    have HYT := HTT
    clear ho4' hb4 d0 d1 hxt
    go_wp2_with fail
    go_loopw [8, 23] (fun q i wr => ∃ k : Nat, k ≤ ls.length ∧ i = .int .i64 k ∧ Hid (Below w4.heap.size w4 wr) ∧ Hid (wr.ownsRow w4.heap.size 3 1 q ((latestL ls l ts).take k).length (I ((latestL ls l ts).take k)))) (fun _ i _ => ls.length - (intOf i).toNat)
    case atStart => exact ⟨0, Nat.zero_le _, rfl, Below.refl _ _, none_ownZ _ _ _⟩
    case round =>
      obtain ⟨k, hk, rfl, HB, HN⟩ := hrel
      have hbs := HB.out.size
      by_cases hlt : k < ls.length
      · have hkr : 0 ≤ (k : Int) ∧ (k : Int) < (ls.length : Int) := by omega
        have hkx : k < (tailsL ls l ts).length := by rw [HXL.out]; exact hlt
        have hky : k < ts.length := by rw [HYL.out]; exact hlt
        have hkm : k < (latestL ls l ts).length := by rw [HML.out]; exact hlt
        have hkyz : (k : Int) < (ts.length : Int) := by omega
        obtain ⟨g, o, hgo, hg, hcell0⟩ := HLT.out k hkx
        subst hgo
        obtain ⟨g1, o1, hgo1, hg1, hcell1⟩ := HYT.out k hky
        subst hgo1
        have hcx : wr.cell? ⟨g, o + k, none⟩ = some (.int .i64 (atI (tailsL ls l ts) (k : Int))) := by rw [HB.out.cell (p := ⟨g, o + k, none⟩) hg, hcell0, atI_get hkx]
        have hcy : wr.cell? ⟨g1, o1 + k, none⟩ = some (.int .i64 (atI ts (k : Int))) := by rw [(bth HB4.out HB.out (Nat.le_refl _)).cell (p := ⟨g1, o1 + k, none⟩) hg1, hcell1, atI_get hky]
        have HE := Lib.hid (show (latestL ls l ts).take (k + 1) = (latestL ls l ts).take k ++ [atI (latestL ls l ts) (k : Int)] by rw [List.take_succ_eq_append_getElem hkm, atI_get hkm])
        have HNA := Lib.hid (own_Z HN.out)
        have hIl : (I ((latestL ls l ts).take k)).length ≤ 1000000 := by rw [I_len, List.length_take]; omega
        have hp := HPW.out k hlt
        clear HN hcell0 hcell1 hkx hky hkm
        generalize atI (latestL ls l ts) (k : Int) = r at *
        generalize atI (tailsL ls l ts) (k : Int) = x at *
        generalize atI ts (k : Int) = y at *
        generalize (latestL ls l ts).take k = mk at *
        obtain ⟨dd, hd⟩ : ∃ d, IntKind.i64.wrap (E - x) = d := ⟨_, rfl⟩
        rw [hd] at hp
        go_wp2_with (at_builtin; refine wpAppOne elemI rfl _ _ rfl w4.heap.size _ (I mk) rfl HNA.out _ rfl rfl rfl hIl HB.out.size ?_; intro v7 w7 hown7 hg7; have HN7 := Lib.hid (own_Z2 hown7); have HB7 := Lib.hid (HB.out.trans (below_own HNA.out hg7 HB.out.size)); clear hown7 hg7)
        go_roundw
        case rel => exact ⟨k + 1, by omega, by go_num, HB7, by rw [HE.out]; exact HN7.out⟩
        case measure => simp [intOf]; omega
      · have ho := HN.out
        rw [List.take_of_length_le (by rw [HML.out]; omega)] at ho
        have HO := Lib.hid (own_base ho HB4.out.size)
        have HBZ := Lib.hid (bth HB4.out HB.out (Nat.le_refl _))
        clear ho HN
        go_wp2_with fail
        go_ret3
        exact ⟨_, rfl, HO.out, HBZ.out⟩

set_option maxRecDepth 20000 in
set_option maxHeartbeats 8000000 in
theorem specSlack_any (ls : List (List Int)) (l ts : List Int) (v u : Value) (w : World) (hst : GraphV w v ls l) (hrow : RowV w u (I ts)) :
    Calls Try.prog 23 #[v, u] w (ListOk (ifL (timesG ls l ts) (slackL ls l ts)) (timesG ls l ts) w) := by
  have HV := Lib.hid hst
  have HR := Lib.hid hrow
  obtain ⟨nv, ov, rfl, h1, h2⟩ := hst
  obtain ⟨an, cn, rfl, hn1, hn2, hat⟩ := h1.lists
  obtain ⟨ao, co, rfl, ho1, ho2, hao⟩ := h2.ints
  obtain ⟨tm, tc, rfl, ht1, ht2, htt⟩ := hrow.ints
  clear h1 h2 hrow
  unfold maxLen at hn2 ho2 ht2
  have HAT := Lib.hid hat
  have HAO := Lib.hid hao
  have HTT := Lib.hid htt
  clear hat hao htt
  obtain ⟨wa, hwa⟩ : ∃ wa, wa = w.alloc (.cells #[.slice an ls.length cn, .slice ao l.length co] 26) := ⟨_, rfl⟩
  have P0 : Hid (Blk2 wa w.heap.size 26 (.slice an ls.length cn) (.slice ao l.length co)) := by rw [hwa]; exact Blk2.new
  have HA : Hid (Below w.heap.size w wa) := by rw [hwa]; exact (Below.refl w.heap.size w).alloc (Nat.le_refl _) _
  have hsa : wa.heap.size = w.heap.size + 1 := by rw [hwa]; simp
  have HSA := Lib.hid hsa
  have hsz : w.heap.size < wa.heap.size := by omega
  have HWA := Lib.hid hwa
  obtain ⟨c0, c1⟩ := P0.out.cells
  have HC := specLatest_any ls l ts _ _ wa (HV.out.below HA.out) (HR.out.below HA.out)
  clear hwa hsa
  rcases hT : timesG ls l ts with _ | _
  · rw [hT] at HC
    have HCC := Lib.hid HC
    clear HC hT
    go_enter Try.func23, Try.ntmps23
    go_wp2_with fail
    rw [← HWA.out]
    refine HCC.out.mono ?_
    rintro e w1 ⟨v1, rfl, _, hb1⟩
    have HB1 := Lib.hid (bth HA.out hb1 (Nat.le_refl _))
    clear hb1 c0 c1
    go_wp2_with fail
    go_ret2
    exact ⟨_, rfl, none_ownZ _ _ _, HB1.out⟩
  · rw [hT] at HC
    have HCC := Lib.hid HC
    obtain ⟨hG, hTT⟩ := timesG_yes hT
    have HG := Lib.hid hG
    have HTM := Lib.hid hTT
    clear HC hT hG hTT
    go_enter Try.func23, Try.ntmps23
    go_wp2_with fail
    rw [← HWA.out]
    refine HCC.out.mono ?_
    rintro e w1 ⟨v1, rfl, ho1', hb1⟩
    have HB1 := Lib.hid (bth HA.out hb1 (Nat.le_refl _))
    have P1 := Lib.hid (P0.out.below hb1 hsz)
    have ho1 : w1.ownsRow wa.heap.size 3 1 v1 (latestL ls l ts).length (I (latestL ls l ts)) := ho1'
    obtain ⟨ya, yc, hv1, hy1, hy2, hyt⟩ := (RowV.of_own ho1).ints
    rw [latestL_len] at hv1 hy1
    subst hv1
    unfold maxLen at hy2
    have HYT := Lib.hid hyt
    obtain ⟨d0, d1⟩ := P1.out.cells
    have HU2 := Lib.hid (l10Ends_any ls l ts _ _ w1 (HV.out.below HB1.out) (HR.out.below HB1.out) HG.out HTM.out)
    have HPW : Hid (∀ k : Nat, k < ls.length → IntKind.i64.wrap (atI (latestL ls l ts) (k : Int) - atI (endsL ls l ts) (k : Int)) = atI (slackL ls l ts) (k : Int)) := fun k hk => by
      have hkr : 0 ≤ (k : Int) ∧ (k : Int) < (ls.length : Int) := by omega
      have h1 := latest_at HG.out.toP HTM.out hkr
      have h2 := ends_at HG.out.toP HTM.out hkr
      have h3 : atI (slackL ls l ts) (k : Int) = atI (latestL ls l ts) (k : Int) - atI (endsL ls l ts) (k : Int) := atI_map hkr
      rw [h3]
      simp only [IntKind.wrap_i64]
      omega
    have HXL := Lib.hid (endsL_len ls l ts)
    have HYL := Lib.hid (latestL_len ls l ts)
    have HML := Lib.hid (slackL_len ls l ts)
    have h10 := HG.out.high
    clear hb1 c0 c1 ho1' ho1 hyt
    go_wp2_with fail
    refine HU2.out.mono ?_
    rintro e w4 ⟨v4, rfl, ho4', hb4⟩
    have K4 := Lib.hid hb4
    have HB4 := Lib.hid (bth HB1.out hb4 (Nat.le_refl _))
    obtain ⟨xa, xc, hv4, hx1, hx2, hxt⟩ := (RowV.of_own ho4').ints
    rw [HXL.out] at hv4 hx1
    subst hv4
    unfold maxLen at hx2
    have HLT := Lib.hid hxt
    clear ho4' hb4 d0 d1 hxt
    go_wp2_with fail
    go_loopw [9, 25] (fun q i wr => ∃ k : Nat, k ≤ ls.length ∧ i = .int .i64 k ∧ Hid (Below w4.heap.size w4 wr) ∧ Hid (wr.ownsRow w4.heap.size 3 1 q ((slackL ls l ts).take k).length (I ((slackL ls l ts).take k)))) (fun _ i _ => ls.length - (intOf i).toNat)
    case atStart => exact ⟨0, Nat.zero_le _, rfl, Below.refl _ _, none_ownZ _ _ _⟩
    case round =>
      obtain ⟨k, hk, rfl, HB, HN⟩ := hrel
      have hbs := HB.out.size
      by_cases hlt : k < ls.length
      · have hkr : 0 ≤ (k : Int) ∧ (k : Int) < (ls.length : Int) := by omega
        have hkx : k < (endsL ls l ts).length := by rw [HXL.out]; exact hlt
        have hky : k < (latestL ls l ts).length := by rw [HYL.out]; exact hlt
        have hkm : k < (slackL ls l ts).length := by rw [HML.out]; exact hlt
        have hkyz : (k : Int) < ((latestL ls l ts).length : Int) := by omega
        obtain ⟨g, o, hgo, hg, hcell0⟩ := HLT.out k hkx
        subst hgo
        obtain ⟨g1, o1, hgo1, hg1, hcell1⟩ := HYT.out k hky
        subst hgo1
        have hcx : wr.cell? ⟨g, o + k, none⟩ = some (.int .i64 (atI (endsL ls l ts) (k : Int))) := by rw [HB.out.cell (p := ⟨g, o + k, none⟩) hg, hcell0, atI_get hkx]
        have hcy : wr.cell? ⟨g1, o1 + k, none⟩ = some (.int .i64 (atI (latestL ls l ts) (k : Int))) := by rw [(bth K4.out HB.out (Nat.le_refl _)).cell (p := ⟨g1, o1 + k, none⟩) hg1, hcell1, atI_get hky]
        have HE := Lib.hid (show (slackL ls l ts).take (k + 1) = (slackL ls l ts).take k ++ [atI (slackL ls l ts) (k : Int)] by rw [List.take_succ_eq_append_getElem hkm, atI_get hkm])
        have HNA := Lib.hid (own_Z HN.out)
        have hIl : (I ((slackL ls l ts).take k)).length ≤ 1000000 := by rw [I_len, List.length_take]; omega
        have hp := HPW.out k hlt
        clear HN hcell0 hcell1 hkx hky hkm
        generalize atI (slackL ls l ts) (k : Int) = r at *
        generalize atI (endsL ls l ts) (k : Int) = x at *
        generalize atI (latestL ls l ts) (k : Int) = y at *
        generalize (slackL ls l ts).take k = mk at *
        skip
        go_wp2_with (at_builtin; refine wpAppOne elemI rfl _ _ rfl w4.heap.size _ (I mk) rfl HNA.out _ rfl rfl rfl hIl HB.out.size ?_; intro v7 w7 hown7 hg7; have HN7 := Lib.hid (own_Z2 hown7); have HB7 := Lib.hid (HB.out.trans (below_own HNA.out hg7 HB.out.size)); clear hown7 hg7)
        go_roundw
        case rel => exact ⟨k + 1, by omega, by go_num, HB7, by rw [HE.out]; exact HN7.out⟩
        case measure => simp [intOf]; omega
      · have ho := HN.out
        rw [List.take_of_length_le (by rw [HML.out]; omega)] at ho
        have HO := Lib.hid (own_base ho HB4.out.size)
        have HBZ := Lib.hid (bth HB4.out HB.out (Nat.le_refl _))
        clear ho HN
        go_wp2_with fail
        go_ret2
        exact ⟨_, rfl, HO.out, HBZ.out⟩

end Go.Proofs.Ytgolhfmmlanmlaa

/- Walks: the greatest of all, two lists taken pair by pair, the program's latest ends and slack. -/
namespace Go.Proofs.Ytgolhfmmlanmlaa
open Go.RowKit Pth

theorem Blk1.setE {w : World} {b t : Nat} {x : Value} (h : Blk1 w b t x) (u : Value) : Blk1 (w.setCell ⟨b, 0, none⟩ u) b t u := heap_setCell_same w b 0 _ t u h

set_option maxRecDepth 20000 in
set_option maxHeartbeats 8000000 in
theorem max_any (l : List Int) (v : Value) (w : World) (hrow : RowV w v (I l)) (hne : 0 < l.length) (h0 : ∀ x ∈ l, 0 ≤ x) :
    Calls Try.prog 73 #[v] w fun e w' => e = .returned (.int .i64 (endT l)) ∧ w' = w := by
  obtain ⟨a, cap, rfl, hc1, hc2, hat⟩ := hrow.ints
  clear hrow
  unfold maxLen at hc2
  have HAT := Lib.hid hat
  obtain ⟨g, o, rfl, hg, hcell0⟩ := hat 0 hne
  have hcell1 : w.cell? ⟨g, o, none⟩ = some (.int .i64 l[0]) := hcell0
  have h1 : Hid (endT (l.take 1) = l[0]) := by
    show _ = _
    have := h0 l[0] (List.getElem_mem hne)
    rw [List.take_succ_eq_append_getElem hne, List.take_zero, endT_snoc]
    show (if l[0] > 0 then l[0] else 0) = l[0]
    split <;> omega
  have hd : decide ((l.length : Int) < 1) = false := by simp; omega
  have hl0 : (0 : Int) < (l.length : Int) := by omega
  clear hat h0
  go_enter Try.func73, Try.ntmps73
  go_wp2_with fail
  clear hcell0 hcell1
  go_loop [3, 4] (fun q i => ∃ k : Nat, 1 ≤ k ∧ k ≤ l.length ∧ i = .int .i64 k ∧ Hid (q = .int .i64 (endT (l.take k)))) (fun _ i => l.length - (intOf i).toNat)
  case atStart => exact ⟨1, Nat.le_refl _, hne, rfl, by show _ = _; rw [h1.out]⟩
  case round =>
    obtain ⟨k, hk0, hk, rfl, HQ⟩ := hrel
    have hq := HQ.out
    clear HQ
    subst hq
    by_cases hlt : k < l.length
    · obtain ⟨g', o', hA, hg', hcell⟩ := HAT.out k hlt
      obtain ⟨rfl, rfl⟩ := addr_inj hA
      have hltz : (k : Int) < (l.length : Int) := by omega
      obtain ⟨r, hr⟩ : ∃ r, endT (l.take (k + 1)) = r := ⟨_, rfl⟩
      have hmx : max (endT (l.take k)) l[k] = r := by
        rw [← hr, List.take_succ_eq_append_getElem hlt, endT_snoc, Int.max_def]
        split <;> split <;> omega
      have HRE := Lib.hid hr
      clear hr hA h1
      generalize endT (l.take k) = q at *
      generalize l[k] = x at *
      go_wp2_with fail
      go_round
      case rel => exact ⟨k + 1, by omega, by omega, by go_num, by show _ = _; rw [HRE.out]⟩
      case measure => simp [intOf]; omega
    · have he : l.take k = l := List.take_of_length_le (by omega)
      have hltz : ¬ ((k : Int) < (l.length : Int)) := by omega
      rw [he]
      clear he h1
      go_wp2_with fail
      go_ret
      exact ⟨rfl, rfl⟩

set_option maxRecDepth 20000 in
set_option maxHeartbeats 8000000 in
theorem endOfAll_any (l : List Int) (v : Value) (w : World) (hrow : RowV w v (I l)) (hne : 0 < l.length) (h0 : ∀ x ∈ l, 0 ≤ x) :
    Calls Try.prog 42 #[v] w fun e w' => e = .returned (.int .i64 (endT l)) ∧ w' = w := by
  have HC := Lib.hid (max_any l v w hrow hne h0)
  obtain ⟨a, cap, rfl, _⟩ := hrow.ints
  clear hrow h0
  go_enter Try.func42, Try.ntmps42
  go_wp2_with fail
  refine HC.out.mono ?_
  rintro e w1 ⟨rfl, rfl⟩
  go_wp2_with fail
  go_ret
  exact ⟨rfl, rfl⟩
theorem latest1_any (E x y r : Int) (b : Nat) (w : World) (hb : w.cell? ⟨b, 0, none⟩ = some (.int .i64 E)) (hr : IntKind.i64.wrap (IntKind.i64.wrap (E - x) + y) = r) :
    Calls Try.prog 56 #[.int .i64 x, .int .i64 y, .pointer (some ⟨b, 0, none⟩)] w fun e w' => e = .returned (.int .i64 r) ∧ w' = w := by
  obtain ⟨d, hd⟩ : ∃ d, IntKind.i64.wrap (E - x) = d := ⟨_, rfl⟩
  rw [hd] at hr
  go_enter Try.func56, Try.ntmps56
  go_wp2_with fail
  go_ret
  exact ⟨rfl, rfl⟩
theorem slack1_any (x y r : Int) (w : World) (hr : IntKind.i64.wrap (x - y) = r) :
    Calls Try.prog 55 #[.int .i64 x, .int .i64 y] w fun e w' => e = .returned (.int .i64 r) ∧ w' = w := by
  go_enter Try.func55, Try.ntmps55
  go_wp2_with fail
  go_ret
  exact ⟨rfl, rfl⟩

set_option maxRecDepth 20000 in
set_option maxHeartbeats 8000000 in
theorem pairLatest_any (n : Nat) (la lb m : List Int) (E : Int) (gb : Nat) (v1 v2 : Value) (w : World) (h1 : RowV w v1 (I la)) (h2 : RowV w v2 (I lb)) (ha : la.length = n) (hb : lb.length = n) (hm : m.length = n) (h10 : n ≤ 1000) (hf : (∀ k : Nat, k < n → IntKind.i64.wrap (IntKind.i64.wrap (E - atI la (k : Int)) + atI lb (k : Int)) = atI m (k : Int)) ∧ Blk1 w gb 3 (.int .i64 E) ∧ gb < w.heap.size) :
    Calls Try.prog 54 #[v1, v2, .func (.func 56) #[] #[.pointer (some ⟨gb, 0, none⟩)]] w (IntsPost w.heap.size m w) := by
  obtain ⟨aa, ca, hv1, ha1, ha2, hat⟩ := h1.ints
  obtain ⟨ab, cb, hv2, hb1, hb2, hbt⟩ := h2.ints
  rw [ha] at hv1 ha1
  rw [hb] at hv2 hb1
  subst hv1 hv2
  unfold maxLen at ha2 hb2
  have HAT := Lib.hid hat
  have HBT := Lib.hid hbt
  have HA := Lib.hid ha
  have HB := Lib.hid hb
  have HM := Lib.hid hm
  have HF := Lib.hid hf
  clear hat hbt h1 h2 ha hb hm hf
  obtain ⟨csI, hcI, mI⟩ := make_alloc elemI rfl n (by omega)
  have hH := (own_of_heap (w := w.alloc (.cells csI 3)) (B := w.heap.size) (heap_alloc_new w _) (Nat.le_refl _) hcI (by simp) (show n ≤ maxLen by unfold maxLen; omega))
  have HB0 : Hid (Below w.heap.size w (w.alloc (.cells csI 3))) := (Below.refl w.heap.size w).alloc (Nat.le_refl _) _
  have e0 : List.replicate n (Value.int .i64 0) = I (m.take 0 ++ List.replicate (n - 0) 0) := by simp [I]
  rw [e0] at hH
  have HO0 := Lib.hid hH
  obtain ⟨w2, hw2⟩ : ∃ w2, w2 = w.alloc (.cells csI 3) := ⟨_, rfl⟩
  rw [← hw2] at HO0 HB0
  have HW2 := Lib.hid hw2
  clear hcI hH e0 hw2
  go_enter Try.func54, Try.ntmps54
  go_wp2_with fail
  rw [← HW2.out]
  clear mI HW2
  go_loopw [14] (fun i wr => ∃ k : Nat, k ≤ n ∧ i = .int .i64 (k : Int) ∧ Hid (wr.ownsRow w.heap.size 3 1 (.slice (some ⟨w.heap.size, 0, none⟩) n n) n (I (m.take k ++ List.replicate (n - k) 0))) ∧ Hid (Below w.heap.size w wr)) (fun i _ => n - (intOf i).toNat)
  case atStart => exact ⟨0, Nat.zero_le _, rfl, HO0, HB0⟩
  case round =>
    clear HO0 HB0
    obtain ⟨k, hk, rfl, HO, HBW⟩ := hrel
    by_cases hlt : k < n
    · have hka : k < la.length := by rw [HA.out]; exact hlt
      have hkb : k < lb.length := by rw [HB.out]; exact hlt
      have hkm : k < m.length := by rw [HM.out]; exact hlt
      obtain ⟨g, o, hgo, hg, hcell0⟩ := HAT.out k hka
      subst hgo
      obtain ⟨g1, o1, hgo1, hg1, hcell1⟩ := HBT.out k hkb
      subst hgo1
      have hltz : (k : Int) < (n : Int) := by omega
      have hcx : wr.cell? ⟨g, o + k, none⟩ = some (.int .i64 (atI la (k : Int))) := by rw [HBW.out.cell (p := ⟨g, o + k, none⟩) hg, hcell0, atI_get hka]
      have hcy : wr.cell? ⟨g1, o1 + k, none⟩ = some (.int .i64 (atI lb (k : Int))) := by rw [HBW.out.cell (p := ⟨g1, o1 + k, none⟩) hg1, hcell1, atI_get hkb]
      have hml : (m.take k).length = k := by rw [List.length_take, Nat.min_eq_left (by omega)]
      have hfl := fill_one (m.take k) (0 : Int) (atI m (k : Int)) n k hml hlt
      rw [atI_get hkm, ← List.take_succ_eq_append_getElem hkm, ← atI_get hkm] at hfl
      have HC := Lib.hid (fun W (hW : Below wr.heap.size wr W) => latest1_any E (atI la (k : Int)) (atI lb (k : Int)) (atI m (k : Int)) gb W ((HF.out.2.1.below (bth HBW.out hW (Nat.le_refl _)) HF.out.2.2).cell) (HF.out.1 k hlt))
      have hcu : wr.cell? ⟨w.heap.size, k, none⟩ = some (.int .i64 0) := by
        rw [HO.out.cellAt k (by omega), I_append, List.getElem?_append_right (by rw [I_len, hml]; exact Nat.le_refl _), I_len, hml, Nat.sub_self]
        have : n - k = (n - (k + 1)) + 1 := by omega
        rw [this]
        rfl
      have hf2 := HO.out.frozenAt k
      have hst := HO.out.stored k (.int .i64 (atI m (k : Int)))
      rw [I_setE, hfl] at hst
      have HO1 := Lib.hid hst.1
      have HB1 := Lib.hid (HBW.out.trans (only_below hst.2 (Nat.le_refl _) HBW.out.size))
      clear hst hcell0 hcell1 hml hfl HO HBW hka hkb hkm
      generalize atI m (k : Int) = r at *
      generalize atI la (k : Int) = x at *
      generalize atI lb (k : Int) = y at *
      go_wp2_with fail
      go_region_with (go_at_call 56; first | (refine (HC.out _ (Below.refl _ _)).mono ?_; rintro e w9 ⟨rfl, rfl⟩) | (refine (HC.out _ (Below.drew (Below.refl _ _))).mono ?_; rintro e w9 ⟨rfl, rfl⟩))
      all_goals
        go_wp2_with fail
        go_roundw
        case rel => exact ⟨k + 1, by omega, by go_num, HO1, Lib.hid (Below.drew HB1.out)⟩
        case measure => simp [intOf]; omega
    · obtain rfl : k = n := by omega
      have ho := HO.out
      rw [List.take_of_length_le (by rw [HM.out]; omega), Nat.sub_self, List.replicate_zero, List.append_nil] at ho
      have HO2 := Lib.hid ho
      clear ho HO
      go_wp2_with fail
      go_ret
      exact ⟨_, rfl, by rw [HM.out]; exact HO2.out, HBW.out⟩

set_option maxRecDepth 20000 in
set_option maxHeartbeats 8000000 in
theorem pairSlack_any (n : Nat) (la lb m : List Int) (v1 v2 : Value) (w : World) (h1 : RowV w v1 (I la)) (h2 : RowV w v2 (I lb)) (ha : la.length = n) (hb : lb.length = n) (hm : m.length = n) (h10 : n ≤ 1000) (hf : ∀ k : Nat, k < n → IntKind.i64.wrap (atI la (k : Int) - atI lb (k : Int)) = atI m (k : Int)) :
    Calls Try.prog 54 #[v1, v2, .func (.func 55) #[] #[]] w (IntsPost w.heap.size m w) := by
  obtain ⟨aa, ca, hv1, ha1, ha2, hat⟩ := h1.ints
  obtain ⟨ab, cb, hv2, hb1, hb2, hbt⟩ := h2.ints
  rw [ha] at hv1 ha1
  rw [hb] at hv2 hb1
  subst hv1 hv2
  unfold maxLen at ha2 hb2
  have HAT := Lib.hid hat
  have HBT := Lib.hid hbt
  have HA := Lib.hid ha
  have HB := Lib.hid hb
  have HM := Lib.hid hm
  have HF := Lib.hid hf
  clear hat hbt h1 h2 ha hb hm hf
  obtain ⟨csI, hcI, mI⟩ := make_alloc elemI rfl n (by omega)
  have hH := (own_of_heap (w := w.alloc (.cells csI 3)) (B := w.heap.size) (heap_alloc_new w _) (Nat.le_refl _) hcI (by simp) (show n ≤ maxLen by unfold maxLen; omega))
  have HB0 : Hid (Below w.heap.size w (w.alloc (.cells csI 3))) := (Below.refl w.heap.size w).alloc (Nat.le_refl _) _
  have e0 : List.replicate n (Value.int .i64 0) = I (m.take 0 ++ List.replicate (n - 0) 0) := by simp [I]
  rw [e0] at hH
  have HO0 := Lib.hid hH
  obtain ⟨w2, hw2⟩ : ∃ w2, w2 = w.alloc (.cells csI 3) := ⟨_, rfl⟩
  rw [← hw2] at HO0 HB0
  have HW2 := Lib.hid hw2
  clear hcI hH e0 hw2
  go_enter Try.func54, Try.ntmps54
  go_wp2_with fail
  rw [← HW2.out]
  clear mI HW2
  go_loopw [14] (fun i wr => ∃ k : Nat, k ≤ n ∧ i = .int .i64 (k : Int) ∧ Hid (wr.ownsRow w.heap.size 3 1 (.slice (some ⟨w.heap.size, 0, none⟩) n n) n (I (m.take k ++ List.replicate (n - k) 0))) ∧ Hid (Below w.heap.size w wr)) (fun i _ => n - (intOf i).toNat)
  case atStart => exact ⟨0, Nat.zero_le _, rfl, HO0, HB0⟩
  case round =>
    clear HO0 HB0
    obtain ⟨k, hk, rfl, HO, HBW⟩ := hrel
    by_cases hlt : k < n
    · have hka : k < la.length := by rw [HA.out]; exact hlt
      have hkb : k < lb.length := by rw [HB.out]; exact hlt
      have hkm : k < m.length := by rw [HM.out]; exact hlt
      obtain ⟨g, o, hgo, hg, hcell0⟩ := HAT.out k hka
      subst hgo
      obtain ⟨g1, o1, hgo1, hg1, hcell1⟩ := HBT.out k hkb
      subst hgo1
      have hltz : (k : Int) < (n : Int) := by omega
      have hcx : wr.cell? ⟨g, o + k, none⟩ = some (.int .i64 (atI la (k : Int))) := by rw [HBW.out.cell (p := ⟨g, o + k, none⟩) hg, hcell0, atI_get hka]
      have hcy : wr.cell? ⟨g1, o1 + k, none⟩ = some (.int .i64 (atI lb (k : Int))) := by rw [HBW.out.cell (p := ⟨g1, o1 + k, none⟩) hg1, hcell1, atI_get hkb]
      have hml : (m.take k).length = k := by rw [List.length_take, Nat.min_eq_left (by omega)]
      have hfl := fill_one (m.take k) (0 : Int) (atI m (k : Int)) n k hml hlt
      rw [atI_get hkm, ← List.take_succ_eq_append_getElem hkm, ← atI_get hkm] at hfl
      have HC := Lib.hid (fun W (hW : Below wr.heap.size wr W) => (fun _ => slack1_any (atI la (k : Int)) (atI lb (k : Int)) (atI m (k : Int)) W (HF.out k hlt)) hW)
      have hcu : wr.cell? ⟨w.heap.size, k, none⟩ = some (.int .i64 0) := by
        rw [HO.out.cellAt k (by omega), I_append, List.getElem?_append_right (by rw [I_len, hml]; exact Nat.le_refl _), I_len, hml, Nat.sub_self]
        have : n - k = (n - (k + 1)) + 1 := by omega
        rw [this]
        rfl
      have hf2 := HO.out.frozenAt k
      have hst := HO.out.stored k (.int .i64 (atI m (k : Int)))
      rw [I_setE, hfl] at hst
      have HO1 := Lib.hid hst.1
      have HB1 := Lib.hid (HBW.out.trans (only_below hst.2 (Nat.le_refl _) HBW.out.size))
      clear hst hcell0 hcell1 hml hfl HO HBW hka hkb hkm
      generalize atI m (k : Int) = r at *
      generalize atI la (k : Int) = x at *
      generalize atI lb (k : Int) = y at *
      go_wp2_with fail
      go_region_with (go_at_call 55; first | (refine (HC.out _ (Below.refl _ _)).mono ?_; rintro e w9 ⟨rfl, rfl⟩) | (refine (HC.out _ (Below.drew (Below.refl _ _))).mono ?_; rintro e w9 ⟨rfl, rfl⟩))
      all_goals
        go_wp2_with fail
        go_roundw
        case rel => exact ⟨k + 1, by omega, by go_num, HO1, Lib.hid (Below.drew HB1.out)⟩
        case measure => simp [intOf]; omega
    · obtain rfl : k = n := by omega
      have ho := HO.out
      rw [List.take_of_length_le (by rw [HM.out]; omega), Nat.sub_self, List.replicate_zero, List.append_nil] at ho
      have HO2 := Lib.hid ho
      clear ho HO
      go_wp2_with fail
      go_ret
      exact ⟨_, rfl, by rw [HM.out]; exact HO2.out, HBW.out⟩

set_option maxRecDepth 20000 in
set_option maxHeartbeats 8000000 in
theorem implLatest_any (ls : List (List Int)) (l ts : List Int) (v u : Value) (w : World) (hst : GraphV w v ls l) (hrow : RowV w u (I ts)) :
    Calls Try.prog 24 #[v, u] w (ListNOk (ifL (timesG ls l ts) (latestL ls l ts)) (ifN (timesG ls l ts) (endT (tailsL ls l ts))) (timesG ls l ts) w) := by
  have HV := Lib.hid hst
  have HR := Lib.hid hrow
  obtain ⟨nv, ov, rfl, h1, h2⟩ := hst
  obtain ⟨an, cn, rfl, hn1, hn2, hat⟩ := h1.lists
  obtain ⟨ao, co, rfl, ho1, ho2, hao⟩ := h2.ints
  obtain ⟨tm, tc, rfl, ht1, ht2, htt⟩ := hrow.ints
  clear h1 h2 hrow
  unfold maxLen at hn2 ho2 ht2
  have HAT := Lib.hid hat
  have HAO := Lib.hid hao
  have HTT := Lib.hid htt
  clear hat hao htt
  obtain ⟨wa, hwa⟩ : ∃ wa, wa = w.alloc (.cells #[.slice an ls.length cn, .slice ao l.length co] 26) := ⟨_, rfl⟩
  have P0 : Hid (Blk2 wa w.heap.size 26 (.slice an ls.length cn) (.slice ao l.length co)) := by rw [hwa]; exact Blk2.new
  have HA : Hid (Below w.heap.size w wa) := by rw [hwa]; exact (Below.refl w.heap.size w).alloc (Nat.le_refl _) _
  have hsa : wa.heap.size = w.heap.size + 1 := by rw [hwa]; simp
  have HSA := Lib.hid hsa
  have hsz : w.heap.size < wa.heap.size := by omega
  have HWA := Lib.hid hwa
  obtain ⟨c0, c1⟩ := P0.out.cells
  have HC := implTails_any ls l ts _ _ wa (HV.out.below HA.out) (HR.out.below HA.out)
  have hmf : ∀ (fn : Fn) (first cap : Array Value) (w : World), (Instr.makeFunc fn first cap).run Try.prog w = .ok (.func fn first cap) w := fun _ _ _ _ => rfl
  clear hwa hsa
  rcases hT : timesG ls l ts with _ | _
  · rw [hT] at HC
    have HCC := Lib.hid HC
    clear HC hT hmf
    go_enter Try.func24, Try.ntmps24
    go_wp2_with fail
    rw [← HWA.out]
    refine HCC.out.mono ?_
    rintro e w1 ⟨v1, rfl, _, hb1⟩
    have HB1 := Lib.hid (bth HA.out hb1 (Nat.le_refl _))
    clear hb1 c0 c1
    go_wp2_with fail
    go_ret3
    exact ⟨_, rfl, none_ownZ _ _ _, HB1.out⟩
  · rw [hT] at HC
    have HCC := Lib.hid HC
    obtain ⟨hG, hTT⟩ := timesG_yes hT
    have HG := Lib.hid hG
    have HTM := Lib.hid hTT
    clear HC hT hG hTT
    go_enter Try.func24, Try.ntmps24
    go_wp2_with fail
    rw [← HWA.out]
    refine HCC.out.mono ?_
    rintro e w1 ⟨v1, rfl, ho1', hb1⟩
    have HB1 := Lib.hid (bth HA.out hb1 (Nat.le_refl _))
    have HO1 := Lib.hid ho1'
    have hpos : 0 < (tailsL ls l ts).length := by rw [tailsL_len]; exact HG.out.low
    have hnon : ∀ x ∈ tailsL ls l ts, 0 ≤ x := fun x hx => by
      obtain ⟨y, hy, e⟩ := mem_at0 hx
      rw [tailsL_len] at hy
      have := (tails_at HG.out.toP HTM.out hy).1
      omega
    have HE := Lib.hid (endOfAll_any (tailsL ls l ts) v1 w1 (RowV.of_own ho1') hpos hnon)
    have hea := end_at HG.out.toP HTM.out
    have HPW : Hid (∀ k : Nat, k < ls.length → IntKind.i64.wrap (IntKind.i64.wrap (endT (tailsL ls l ts) - atI (tailsL ls l ts) (k : Int)) + atI ts (k : Int)) = atI (latestL ls l ts) (k : Int)) := fun k hk => by
      have hkr : 0 ≤ (k : Int) ∧ (k : Int) < (ls.length : Int) := by omega
      have h1 := latest_at HG.out.toP HTM.out hkr
      have h2 := tails_at HG.out.toP HTM.out hkr
      have h3 := HTM.out.at hkr
      rw [h1.1]
      simp only [IntKind.wrap_i64]
      omega
    have HLN := Lib.hid (tailsL_len ls l ts)
    have HLL := Lib.hid (latestL_len ls l ts)
    have h10 := HG.out.high
    obtain ⟨qa, qc, hq⟩ := own_slice ho1'
    subst hq
    obtain ⟨w5, hw5⟩ : ∃ w5, w5 = w1.alloc (.cells #[.int .i64 (endT (tailsL ls l ts))] 3) := ⟨_, rfl⟩
    have HBX : Hid (Blk1 w5 w1.heap.size 3 (.int .i64 (endT (tailsL ls l ts)))) := by rw [hw5]; exact Blk1.new
    have K5 : Hid (Below w1.heap.size w1 w5) := by rw [hw5]; exact (Below.refl w1.heap.size w1).alloc (Nat.le_refl _) _
    have hs5 : w1.heap.size < w5.heap.size := by rw [hw5]; simp
    have HP := Lib.hid (pairLatest_any ls.length (tailsL ls l ts) ts (latestL ls l ts) (endT (tailsL ls l ts)) w1.heap.size _ _ w5 (RowV.of_own (own_below HO1.out K5.out)) (HR.out.below (bth HB1.out K5.out (Nat.le_refl _))) HLN.out HTM.out.len HLL.out (by omega) ⟨HPW.out, HBX.out, hs5⟩)
    have HW5 := Lib.hid hw5
    clear hb1 c0 c1 ho1' hpos hnon hw5
    generalize endT (tailsL ls l ts) = E at *
    generalize (tailsL ls l ts).length = n1 at *
    go_wp2_with fail
    refine HE.out.mono ?_
    rintro e w2 ⟨rfl, rfl⟩
    go_upto_region 5 with fail
    rw [← HW5.out]
    go_wp2_with fail
    refine HP.out.mono ?_
    rintro e w6 ⟨v6, rfl, ho6, hb6⟩
    have hc6 := (HBX.out.below hb6 hs5).cell
    have HO6 := Lib.hid (own_base ho6 (Nat.le_trans HB1.out.size (Nat.le_of_lt hs5)))
    have HB6 := Lib.hid (bth (bth HB1.out K5.out (Nat.le_refl _)) hb6 (Nat.le_refl _))
    clear ho6 hb6
    go_wp2_with fail
    go_region
    all_goals
      go_wp2_with fail
      go_ret3
      exact ⟨_, rfl, own_below HO6.out (Below.drew (Below.refl _ _)), Below.drew HB6.out⟩

set_option maxRecDepth 20000 in
set_option maxHeartbeats 8000000 in
theorem implSlack_any (ls : List (List Int)) (l ts : List Int) (v u : Value) (w : World) (hst : GraphV w v ls l) (hrow : RowV w u (I ts)) :
    Calls Try.prog 22 #[v, u] w (ListOk (ifL (timesG ls l ts) (slackL ls l ts)) (timesG ls l ts) w) := by
  have HV := Lib.hid hst
  have HR := Lib.hid hrow
  obtain ⟨nv, ov, rfl, h1, h2⟩ := hst
  obtain ⟨an, cn, rfl, hn1, hn2, hat⟩ := h1.lists
  obtain ⟨ao, co, rfl, ho1, ho2, hao⟩ := h2.ints
  obtain ⟨tm, tc, rfl, ht1, ht2, htt⟩ := hrow.ints
  clear h1 h2 hrow
  unfold maxLen at hn2 ho2 ht2
  have HAT := Lib.hid hat
  have HAO := Lib.hid hao
  have HTT := Lib.hid htt
  clear hat hao htt
  obtain ⟨wa, hwa⟩ : ∃ wa, wa = w.alloc (.cells #[.slice an ls.length cn, .slice ao l.length co] 26) := ⟨_, rfl⟩
  have P0 : Hid (Blk2 wa w.heap.size 26 (.slice an ls.length cn) (.slice ao l.length co)) := by rw [hwa]; exact Blk2.new
  have HA : Hid (Below w.heap.size w wa) := by rw [hwa]; exact (Below.refl w.heap.size w).alloc (Nat.le_refl _) _
  have hsa : wa.heap.size = w.heap.size + 1 := by rw [hwa]; simp
  have HSA := Lib.hid hsa
  have hsz : w.heap.size < wa.heap.size := by omega
  have HWA := Lib.hid hwa
  obtain ⟨c0, c1⟩ := P0.out.cells
  have HC := implLatest_any ls l ts _ _ wa (HV.out.below HA.out) (HR.out.below HA.out)
  clear hwa hsa
  rcases hT : timesG ls l ts with _ | _
  · rw [hT] at HC
    have HCC := Lib.hid HC
    clear HC hT
    go_enter Try.func22, Try.ntmps22
    go_wp2_with fail
    rw [← HWA.out]
    refine HCC.out.mono ?_
    rintro e w1 ⟨v1, rfl, _, hb1⟩
    have HB1 := Lib.hid (bth HA.out hb1 (Nat.le_refl _))
    clear hb1 c0 c1
    go_wp2_with fail
    go_ret2
    exact ⟨_, rfl, none_ownZ _ _ _, HB1.out⟩
  · rw [hT] at HC
    have HCC := Lib.hid HC
    obtain ⟨hG, hTT⟩ := timesG_yes hT
    have HG := Lib.hid hG
    have HTM := Lib.hid hTT
    clear HC hT hG hTT
    go_enter Try.func22, Try.ntmps22
    go_wp2_with fail
    rw [← HWA.out]
    refine HCC.out.mono ?_
    rintro e w1 ⟨v1, rfl, ho1', hb1⟩
    have HB1 := Lib.hid (bth HA.out hb1 (Nat.le_refl _))
    have HO1 := Lib.hid ho1'
    obtain ⟨d0, d1⟩ := (P0.out.below hb1 hsz).cells
    have hgr := graph_rows (HV.out.below HB1.out)
    have HU := Lib.hid (longestOver_any ls.length l ts ls _ _ _ w1 hgr.2 hgr.1 (HR.out.below HB1.out) (along_needs HG.out.toP) HTM.out rfl HG.out.high)
    have HPW : Hid (∀ k : Nat, k < ls.length → IntKind.i64.wrap (atI (latestL ls l ts) (k : Int) - atI (endsL ls l ts) (k : Int)) = atI (slackL ls l ts) (k : Int)) := fun k hk => by
      have hkr : 0 ≤ (k : Int) ∧ (k : Int) < (ls.length : Int) := by omega
      have h1 := latest_at HG.out.toP HTM.out hkr
      have h2 := ends_at HG.out.toP HTM.out hkr
      have h3 : atI (slackL ls l ts) (k : Int) = atI (latestL ls l ts) (k : Int) - atI (endsL ls l ts) (k : Int) := atI_map hkr
      rw [h3]
      simp only [IntKind.wrap_i64]
      omega
    have HLL := Lib.hid (latestL_len ls l ts)
    have HLS := Lib.hid (slackL_len ls l ts)
    have h10 := HG.out.high
    obtain ⟨qa, qc, hq⟩ := own_slice ho1'
    subst hq
    clear hb1 c0 c1 ho1' hgr
    generalize (latestL ls l ts).length = n1 at *
    go_wp2_with fail
    refine HU.out.mono ?_
    rintro e w2 ⟨v2, rfl, ho2', hb2⟩
    have ho3 : w2.ownsRow w1.heap.size 3 1 v2 (endsL ls l ts).length (I (endsL ls l ts)) := ho2'
    have HP := Lib.hid (pairSlack_any ls.length (latestL ls l ts) (endsL ls l ts) (slackL ls l ts) _ _ w2 (RowV.of_own (own_below HO1.out hb2)) (RowV.of_own ho3) (latestL_len ls l ts) (endsL_len ls l ts) HLS.out (by omega) HPW.out)
    obtain ⟨ra, rc, hr⟩ := own_slice ho3
    subst hr
    have HB2 := Lib.hid (bth HB1.out hb2 (Nat.le_refl _))
    clear ho2' ho3 hb2 d0 d1
    go_wp2_with fail
    refine HP.out.mono ?_
    rintro e w6 ⟨v6, rfl, ho6, hb6⟩
    have HO6 := Lib.hid (own_base ho6 HB2.out.size)
    have HB6 := Lib.hid (bth HB2.out hb6 (Nat.le_refl _))
    clear ho6 hb6
    go_wp2_with fail
    go_ret2
    exact ⟨_, rfl, HO6.out, HB6.out⟩

end Go.Proofs.Ytgolhfmmlanmlaa
