/- Texts of one claim, joined in their order. -/
import Derived.Deep.CutBlock
import Derived.ArgAppend
import Derived.Laws.CopyOwn
import Derived.Test.YtcfhfhpdnjaokaaM6
import Derived.Test.YtcfhfhpdnjaokaaM5
import Derived.Test.YtcfhfhpdnjaokaaM2

/- Walks: whether a plan is good, of the program. -/
namespace Go.Proofs.Ytcfhfhpdnjaokaa
open Go.RowKit Pth

set_option maxRecDepth 20000 in
set_option maxHeartbeats 8000000 in
theorem implPlan_any (ls : List (List Int)) (l : List Int) (bs : List Bool) (rs : List (List OpT)) (v : Value) (w : World) (hp : PlanV w v ls l bs rs) (hx : ∀ l ∈ rs, ∀ f ∈ l, f.2.2.length ≤ maxLen) :
    Calls Try.prog 41 #[v] w (BoolPost (planA ls l bs rs) w) := by
  obtain ⟨nv, ov, sv, rv, rfl, h1, h2, h3, h4⟩ := hp
  have H1 := Lib.hid h1
  have H2 := Lib.hid h2
  obtain ⟨as0, cs, rfl, hs1, hs2, hats⟩ := h3.boolsW
  obtain ⟨an, cn, rfl, hn1, hn2, hatn⟩ := h1.lists
  obtain ⟨ao, co, rfl, ho1, ho2, _⟩ := h2.ints
  obtain ⟨ar, cr, rfl, hr1, hr2, hatr⟩ := h4.lists
  clear h1 h2 h3 h4
  unfold maxLen at hs2 hn2 ho2 hr2
  obtain ⟨wa, hwa⟩ : ∃ wa, wa = w.alloc (.cells #[.slice an ls.length cn, .slice ao l.length co, .slice as0 bs.length cs, .slice ar rs.length cr] 38) := ⟨_, rfl⟩
  have hsz : w.heap.size < wa.heap.size := by rw [hwa]; simp
  have P0 : Hid (Blk4 wa w.heap.size 38 (.slice an ls.length cn) (.slice ao l.length co) (.slice as0 bs.length cs) (.slice ar rs.length cr)) := by rw [hwa]; exact Blk4.new
  have HA : Hid (Below w.heap.size w wa) := by rw [hwa]; exact (Below.refl w.heap.size w).alloc (Nat.le_refl _) _
  have HC := Lib.hid (implGood_any ls l (.agg #[.slice an ls.length cn, .slice ao l.length co]) wa ⟨_, _, rfl, H1.out.below HA.out, H2.out.below HA.out⟩)
  have HWA := Lib.hid hwa
  have HATS := Lib.hid hats
  have HATN := Lib.hid hatn
  have HATR := Lib.hid hatr
  have HX := Lib.hid hx
  obtain ⟨c0, c1, c2, c3⟩ := P0.out.cells
  clear hwa hats hatn hatr hx
  rcases hg : goodG ls l with _ | _
  · have HT : Hid (planA ls l bs rs = false) := plan_noG hg
    rw [hg] at HC
    clear hg
    go_enter Try.func41, Try.ntmps41
    go_wp2_with fail
    rw [← HWA.out]
    refine HC.out.mono ?_
    rintro e w1 ⟨rfl, hb1⟩
    have HB1 := Lib.hid (bth HA.out hb1 (Nat.le_refl _))
    clear hb1 c0 c1 c2 c3
    go_wp2_with fail
    go_ret
    exact ⟨ret_bool HT.out.symm, HB1.out⟩
  rw [hg] at HC
  by_cases hb : bs.length = ls.length
  · have eb : ((bs.length : Int) != (ls.length : Int)) = false := by simp [hb]
    by_cases hr : rs.length = ls.length
    · have er : ((rs.length : Int) != (ls.length : Int)) = false := by simp [hr]
      have HGG := Lib.hid hg
      have HBL := Lib.hid hb
      have HRL := Lib.hid hr
      have hgg := goodG_iff.1 hg
      have HLL : Hid (∀ k (hk : k < ls.length), ls[k].length ≤ 10) := fun k hk => by
        have hw := (hgg.each k hk).1
        have := rise_len hw.1 hw.2 (by have := hgg.low; omega)
        have := hgg.high
        omega
      have hhigh := hgg.high
      clear hg hgg hb hr
      go_enter Try.func41, Try.ntmps41
      go_wp2_with fail
      rw [← HWA.out]
      refine HC.out.mono ?_
      rintro e w1 ⟨rfl, hb1⟩
      have HB1 := Lib.hid hb1
      clear hb1 c0 c1 c2 c3 HC
      obtain ⟨c0, c1, c2, c3⟩ := (P0.out.below HB1.out hsz).cells
      go_wp2_with fail
      clear c0 c1 c2 c3
      go_loopw [33] (fun i wr => ∃ k : Nat, k ≤ ls.length ∧ i = .int .i64 k ∧ Hid (Below wa.heap.size wa wr) ∧ Hid (∀ j, j < k → planP ls bs rs j = true)) (fun i _ => ls.length - (intOf i).toNat)
      case atStart => exact ⟨0, Nat.zero_le _, rfl, HB1.out, fun j hj => by omega⟩
      case round =>
        clear HB1
        obtain ⟨k, hk, rfl, HB, HO⟩ := hrel
        have HBW := Lib.hid (bth HA.out HB.out (Nat.le_refl _))
        by_cases hlt : k < ls.length
        · have hkb : k < bs.length := by have := HBL.out; omega
          have hkr : k < rs.length := by have := HRL.out; omega
          obtain ⟨gn, on, an2, cn2, rfl, hgn, hcn, hrn⟩ := HATN.out k hlt
          obtain ⟨gb, ob, rfl, hgb, hcb⟩ := HATS.out k hkb
          obtain ⟨gr, or', ar2, cr2, rfl, hgr, hcr, hrr⟩ := HATR.out k hkr
          obtain ⟨_, _, hev, hcl, hcm, _⟩ := hrr.ops
          injection hev with hea _ hec
          subst hea hec
          obtain ⟨nr, hnr⟩ : ∃ n, rs[k].length = n := ⟨_, rfl⟩
          obtain ⟨nl, hnl⟩ : ∃ n, ls[k].length = n := ⟨_, rfl⟩
          obtain ⟨s, hs⟩ : ∃ s, bs[k] = s := ⟨_, rfl⟩
          have hrl : nr ≤ maxLen := by omega
          unfold maxLen at hrl
          have hl10 : nl ≤ 10 := by have := HLL.out k hlt; omega
          rw [hnl] at hcn
          rw [hnr] at hcr hrr
          rw [hs] at hcb
          have HNC : Hid (∀ W, Below w.heap.size w W → W.cell? ⟨gn, on + k, none⟩ = some (.slice an2 nl cn2)) := fun W h => (h.cell (p := ⟨gn, on + k, none⟩) hgn).trans hcn
          have HBC : Hid (∀ W, Below w.heap.size w W → W.cell? ⟨gb, ob + k, none⟩ = some (.bool s)) := fun W h => (h.cell (p := ⟨gb, ob + k, none⟩) hgb).trans hcb
          have HRC : Hid (∀ W, Below w.heap.size w W → W.cell? ⟨gr, or' + k, none⟩ = some (.slice ar2 nr cr2)) := fun W h => (h.cell (p := ⟨gr, or' + k, none⟩) hgr).trans hcr
          obtain ⟨b1, hb1⟩ : ∃ b, goodR rs[k] (nl : Int) = b := ⟨_, rfl⟩
          have HCR : Hid (∀ W, Below w.heap.size w W → Calls Try.prog 54 #[.slice ar2 nr cr2, .int .i64 (nl : Int)] W (BoolPost b1 W)) := fun W h => implGood_bR hb1 _ W (hrr.below h)
          have H8 : Hid (b1 = true → nr ≤ 8) := fun h => by rw [h] at hb1; have := (goodR_iff.1 hb1).2.2.1; omega
          have hPP : planP ls bs rs k = (b1 && !(s && decide (0 < nr + nl))) := by rw [planP_at hlt hkb hkr, hnl, hb1, hnr, hs]
          have hs1 := HNC.out wr HBW.out
          have hs2 := HBC.out wr HBW.out
          have hs3 := HRC.out wr HBW.out
          have hki : (k : Int) < (bs.length : Int) := by omega
          have hkj : (k : Int) < (rs.length : Int) := by omega
          obtain ⟨c0, c1, c2, c3⟩ := (P0.out.below HB.out hsz).cells
          clear hcn hcb hcr hrn hrr hb1 HATN HATS HATR HX H1 H2 hnr hnl hs hcl hcm
          by_cases hz : 0 < nr + nl
          · rw [decide_eq_true hz] at hPP
            have HS : Hid (if b1 && !s then (∀ j, j < k + 1 → planP ls bs rs j = true) else planA ls l bs rs = false) := by
              unfold Hid
              split
              · rename_i h; exact plan_next HO.out (by rw [hPP, Bool.and_true]; exact h)
              · rename_i h; exact plan_bad hlt (by rw [hPP, Bool.and_true]; simpa using h)
            clear hPP HO
            by_cases hn0 : nl = 0
            · subst hn0
              have q2 : ((nr : Int) == 0) = false := by simp; omega
              rcases s with _ | _
              · rcases b1 with _ | _
                · go_wp2_with fail
                  refine (HCR.out wr HBW.out).mono ?_
                  rintro e w2 ⟨rfl, hb2⟩
                  have HB2 := Lib.hid (bth HB.out hb2 (Nat.le_refl _))
                  have HBW2 := Lib.hid (bth HA.out HB2.out (Nat.le_refl _))
                  clear hb2 c0 c1 c2 c3 hs1 hs2 hs3
                  obtain ⟨c0, c1, c2, c3⟩ := (P0.out.below HB2.out hsz).cells
                  have hs1 := HNC.out w2 HBW2.out
                  have hs2 := HBC.out w2 HBW2.out
                  have hs3 := HRC.out w2 HBW2.out
                  go_wp2_with fail
                  go_ret
                  exact ⟨ret_bool (by have := HS.out; simp at this; simp [this]), HBW2.out⟩
                · go_wp2_with fail
                  refine (HCR.out wr HBW.out).mono ?_
                  rintro e w2 ⟨rfl, hb2⟩
                  have HB2 := Lib.hid (bth HB.out hb2 (Nat.le_refl _))
                  have HBW2 := Lib.hid (bth HA.out HB2.out (Nat.le_refl _))
                  clear hb2 c0 c1 c2 c3 hs1 hs2 hs3
                  obtain ⟨c0, c1, c2, c3⟩ := (P0.out.below HB2.out hsz).cells
                  have hs1 := HNC.out w2 HBW2.out
                  have hs2 := HBC.out w2 HBW2.out
                  have hs3 := HRC.out w2 HBW2.out
                  go_wp2_with fail
                  all_goals
                    go_roundw
                    case rel => exact ⟨k + 1, by omega, by go_num, HB2, by have := HS.out; simpa [Hid] using this⟩
                    case measure => simp [intOf]; omega
              · go_wp2_with fail
                go_ret
                exact ⟨ret_bool (by have := HS.out; simp at this; simp [this]), HBW.out⟩
            · have q1 : ((nl : Int) == 0) = false := by simpa using hn0
              rcases s with _ | _
              · rcases b1 with _ | _
                · go_wp2_with fail
                  refine (HCR.out wr HBW.out).mono ?_
                  rintro e w2 ⟨rfl, hb2⟩
                  have HB2 := Lib.hid (bth HB.out hb2 (Nat.le_refl _))
                  have HBW2 := Lib.hid (bth HA.out HB2.out (Nat.le_refl _))
                  clear hb2 c0 c1 c2 c3 hs1 hs2 hs3
                  obtain ⟨c0, c1, c2, c3⟩ := (P0.out.below HB2.out hsz).cells
                  have hs1 := HNC.out w2 HBW2.out
                  have hs2 := HBC.out w2 HBW2.out
                  have hs3 := HRC.out w2 HBW2.out
                  go_wp2_with fail
                  go_ret
                  exact ⟨ret_bool (by have := HS.out; simp at this; simp [this]), HBW2.out⟩
                · go_wp2_with fail
                  refine (HCR.out wr HBW.out).mono ?_
                  rintro e w2 ⟨rfl, hb2⟩
                  have HB2 := Lib.hid (bth HB.out hb2 (Nat.le_refl _))
                  have HBW2 := Lib.hid (bth HA.out HB2.out (Nat.le_refl _))
                  clear hb2 c0 c1 c2 c3 hs1 hs2 hs3
                  obtain ⟨c0, c1, c2, c3⟩ := (P0.out.below HB2.out hsz).cells
                  have hs1 := HNC.out w2 HBW2.out
                  have hs2 := HBC.out w2 HBW2.out
                  have hs3 := HRC.out w2 HBW2.out
                  go_wp2_with fail
                  all_goals
                    go_roundw
                    case rel => exact ⟨k + 1, by omega, by go_num, HB2, by have := HS.out; simpa [Hid] using this⟩
                    case measure => simp [intOf]; omega
              · go_wp2_with fail
                go_ret
                exact ⟨ret_bool (by have := HS.out; simp at this; simp [this]), HBW.out⟩
          · rw [decide_eq_false hz] at hPP
            have HS : Hid (if b1 then (∀ j, j < k + 1 → planP ls bs rs j = true) else planA ls l bs rs = false) := by
              unfold Hid
              split
              · rename_i h; exact plan_next HO.out (by rw [hPP, Bool.and_false, h]; rfl)
              · rename_i h; exact plan_bad hlt (by rw [hPP, Bool.and_false]; simpa using h)
            clear hPP HO
            obtain rfl : nr = 0 := by omega
            obtain rfl : nl = 0 := by omega
            clear hz
            rcases b1 with _ | _
            · rcases s with _ | _
              · go_wp2_with fail
                refine (HCR.out wr HBW.out).mono ?_
                rintro e w2 ⟨rfl, hb2⟩
                have HB2 := Lib.hid (bth HB.out hb2 (Nat.le_refl _))
                have HBW2 := Lib.hid (bth HA.out HB2.out (Nat.le_refl _))
                clear hb2 c0 c1 c2 c3 hs1 hs2 hs3
                obtain ⟨c0, c1, c2, c3⟩ := (P0.out.below HB2.out hsz).cells
                have hs1 := HNC.out w2 HBW2.out
                have hs2 := HBC.out w2 HBW2.out
                have hs3 := HRC.out w2 HBW2.out
                go_wp2_with fail
                go_ret
                exact ⟨ret_bool (by have := HS.out; simp at this; simp [this]), HBW2.out⟩
              · go_wp2_with fail
                refine (HCR.out wr HBW.out).mono ?_
                rintro e w2 ⟨rfl, hb2⟩
                have HB2 := Lib.hid (bth HB.out hb2 (Nat.le_refl _))
                have HBW2 := Lib.hid (bth HA.out HB2.out (Nat.le_refl _))
                clear hb2 c0 c1 c2 c3 hs1 hs2 hs3
                obtain ⟨c0, c1, c2, c3⟩ := (P0.out.below HB2.out hsz).cells
                have hs1 := HNC.out w2 HBW2.out
                have hs2 := HBC.out w2 HBW2.out
                have hs3 := HRC.out w2 HBW2.out
                go_wp2_with fail
                go_ret
                exact ⟨ret_bool (by have := HS.out; simp at this; simp [this]), HBW2.out⟩
            · rcases s with _ | _
              · go_wp2_with fail
                refine (HCR.out wr HBW.out).mono ?_
                rintro e w2 ⟨rfl, hb2⟩
                have HB2 := Lib.hid (bth HB.out hb2 (Nat.le_refl _))
                have HBW2 := Lib.hid (bth HA.out HB2.out (Nat.le_refl _))
                clear hb2 c0 c1 c2 c3 hs1 hs2 hs3
                obtain ⟨c0, c1, c2, c3⟩ := (P0.out.below HB2.out hsz).cells
                have hs1 := HNC.out w2 HBW2.out
                have hs2 := HBC.out w2 HBW2.out
                have hs3 := HRC.out w2 HBW2.out
                go_wp2_with fail
                all_goals
                  go_roundw
                  case rel => exact ⟨k + 1, by omega, by go_num, HB2, by have := HS.out; simpa [Hid] using this⟩
                  case measure => simp [intOf]; omega
              · go_wp2_with fail
                refine (HCR.out wr HBW.out).mono ?_
                rintro e w2 ⟨rfl, hb2⟩
                have HB2 := Lib.hid (bth HB.out hb2 (Nat.le_refl _))
                have HBW2 := Lib.hid (bth HA.out HB2.out (Nat.le_refl _))
                clear hb2 c0 c1 c2 c3 hs1 hs2 hs3
                obtain ⟨c0, c1, c2, c3⟩ := (P0.out.below HB2.out hsz).cells
                have hs1 := HNC.out w2 HBW2.out
                have hs2 := HBC.out w2 HBW2.out
                have hs3 := HRC.out w2 HBW2.out
                go_wp2_with fail
                all_goals
                  go_roundw
                  case rel => exact ⟨k + 1, by omega, by go_num, HB2, by have := HS.out; simpa [Hid] using this⟩
                  case measure => simp [intOf]; omega
        · have HT : Hid (planA ls l bs rs = true) := plan_end (by omega) HGG.out HBL.out HRL.out HO.out
          have hnk : ¬ (k : Int) < (rs.length : Int) := by have := HRL.out; omega
          clear HO HATN HATS HATR
          go_wp2_with fail
          go_ret
          exact ⟨ret_bool HT.out.symm, HBW.out⟩
    · have er : ((rs.length : Int) != (ls.length : Int)) = true := by simp; omega
      have HT : Hid (planA ls l bs rs = false) := plan_noR hr
      clear hg hb hr
      go_enter Try.func41, Try.ntmps41
      go_wp2_with fail
      rw [← HWA.out]
      refine HC.out.mono ?_
      rintro e w1 ⟨rfl, hb1⟩
      have HB1 := Lib.hid (bth HA.out hb1 (Nat.le_refl _))
      obtain ⟨d0, d1, d2, d3⟩ := (P0.out.below hb1 hsz).cells
      clear hb1 c0 c1 c2 c3
      go_wp2_with fail
      go_ret
      exact ⟨ret_bool HT.out.symm, HB1.out⟩
  · have eb : ((bs.length : Int) != (ls.length : Int)) = true := by simp; omega
    have HT : Hid (planA ls l bs rs = false) := plan_noB hb
    clear hg hb
    go_enter Try.func41, Try.ntmps41
    go_wp2_with fail
    rw [← HWA.out]
    refine HC.out.mono ?_
    rintro e w1 ⟨rfl, hb1⟩
    have HB1 := Lib.hid (bth HA.out hb1 (Nat.le_refl _))
    obtain ⟨d0, d1, d2, d3⟩ := (P0.out.below hb1 hsz).cells
    clear hb1 c0 c1 c2 c3
    go_wp2_with fail
    go_ret
    exact ⟨ret_bool HT.out.symm, HB1.out⟩
theorem implPlan_b {ls : List (List Int)} {l : List Int} {bs : List Bool} {rs : List (List OpT)} {b : Bool} (h : planA ls l bs rs = b) (v : Value) (w : World) (hp : PlanV w v ls l bs rs) (hx : ∀ l ∈ rs, ∀ f ∈ l, f.2.2.length ≤ maxLen) : Calls Try.prog 41 #[v] w (BoolPost b w) := by
  have := implPlan_any ls l bs rs v w hp hx; rwa [h] at this

end Go.Proofs.Ytcfhfhpdnjaokaa

/- Walks: whether the bodies of sources are good, of the reference and of the program. -/
namespace Go.Proofs.Ytcfhfhpdnjaokaa
open Go.RowKit Pth

def srcP (bs : List Bool) (ts : List (List UInt8)) (k : Nat) : Bool := decide ((ts.getD k []).length ≤ 40) && (bs.getD k false || decide (ts.getD k [] = []))
noncomputable def srcA (ls : List (List Int)) (l : List Int) (bs : List Bool) (rs : List (List OpT)) (ts : List (List UInt8)) : Bool :=
  planA ls l bs rs && (decide (ts.length = bs.length) && (List.range ts.length).all (srcP bs ts))
theorem srcP_at {bs : List Bool} {ts : List (List UInt8)} {k : Nat} (h1 : k < bs.length) (h2 : k < ts.length) : srcP bs ts k = (decide (ts[k].length ≤ 40) && (bs[k] || decide (ts[k] = []))) := by
  unfold srcP; rw [getD_at _ h1, getD_at _ h2]
theorem src_noP {ls : List (List Int)} {l : List Int} {bs : List Bool} {rs : List (List OpT)} {ts : List (List UInt8)} (h : planA ls l bs rs = false) : srcA ls l bs rs ts = false := by unfold srcA; rw [h]; rfl
theorem src_noL {ls : List (List Int)} {l : List Int} {bs : List Bool} {rs : List (List OpT)} {ts : List (List UInt8)} (h : ts.length ≠ bs.length) : srcA ls l bs rs ts = false := by unfold srcA; rw [decide_eq_false h]; simp
theorem src_bad {ls : List (List Int)} {l : List Int} {bs : List Bool} {rs : List (List OpT)} {ts : List (List UInt8)} {k : Nat} (hk : k < ts.length) (h : srcP bs ts k = false) : srcA ls l bs rs ts = false := by
  have : (List.range ts.length).all (srcP bs ts) = false := List.all_eq_false.2 ⟨k, by simpa using hk, by simp [h]⟩
  unfold srcA; rw [this]; simp
theorem src_next {bs : List Bool} {ts : List (List UInt8)} {k : Nat} (h : ∀ j, j < k → srcP bs ts j = true) (hp : srcP bs ts k = true) : ∀ j, j < k + 1 → srcP bs ts j = true := by
  intro j hj
  by_cases e : j = k
  · rw [e]; exact hp
  · exact h j (by omega)
theorem src_end {ls : List (List Int)} {l : List Int} {bs : List Bool} {rs : List (List OpT)} {ts : List (List UInt8)} {k : Nat} (hk : ts.length ≤ k) (hg : planA ls l bs rs = true) (h1 : ts.length = bs.length) (h : ∀ j, j < k → srcP bs ts j = true) : srcA ls l bs rs ts = true := by
  have : (List.range ts.length).all (srcP bs ts) = true := List.all_eq_true.2 (fun j hj => h j (by simp at hj; omega))
  unfold srcA; rw [hg, decide_eq_true h1, this]; rfl
theorem src_parts {ls : List (List Int)} {l : List Int} {bs : List Bool} {rs : List (List OpT)} {ts : List (List UInt8)} (h : srcA ls l bs rs ts = true) : planA ls l bs rs = true ∧ ts.length = bs.length ∧ ∀ k, k < ts.length → srcP bs ts k = true := by
  unfold srcA at h
  simp only [Bool.and_eq_true, decide_eq_true_eq, List.all_eq_true, List.mem_range] at h
  exact ⟨h.1, h.2.1, h.2.2⟩

set_option maxRecDepth 20000 in
set_option maxHeartbeats 8000000 in
theorem specSrc_any (ls : List (List Int)) (l : List Int) (bs : List Bool) (rs : List (List OpT)) (ts : List (List UInt8)) (v u : Value) (w : World) (hp : PlanV w v ls l bs rs) (hu : RowV w u (S ts)) (hx : ∀ l ∈ rs, ∀ f ∈ l, f.2.2.length ≤ maxLen) (hxt : ∀ x ∈ ts, x.length ≤ maxLen) :
    Calls Try.prog 20 #[v, u] w (BoolPost (srcA ls l bs rs ts) w) := by
  have HV := Lib.hid hp
  obtain ⟨nv, ov, sv, rv, rfl, h1, h2, h3, h4⟩ := hp
  obtain ⟨as0, cs, rfl, hs1, hs2, hats⟩ := h3.boolsW
  obtain ⟨an, cn, rfl, hn1, hn2, _⟩ := h1.lists
  obtain ⟨ao, co, rfl, ho1, ho2, _⟩ := h2.ints
  obtain ⟨ar, cr, rfl, hr1, hr2, _⟩ := h4.lists
  obtain ⟨at0, ct, rfl, ht1, ht2, hatt⟩ := hu.texts
  clear h1 h2 h3 h4 hu
  unfold maxLen at hs2 hn2 ho2 hr2 ht2
  obtain ⟨wa, hwa⟩ : ∃ wa, wa = w.alloc (.cells #[.slice an ls.length cn, .slice ao l.length co, .slice as0 bs.length cs, .slice ar rs.length cr] 38) := ⟨_, rfl⟩
  have hsz : w.heap.size < wa.heap.size := by rw [hwa]; simp
  have P0 : Hid (Blk4 wa w.heap.size 38 (.slice an ls.length cn) (.slice ao l.length co) (.slice as0 bs.length cs) (.slice ar rs.length cr)) := by rw [hwa]; exact Blk4.new
  have HA : Hid (Below w.heap.size w wa) := by rw [hwa]; exact (Below.refl w.heap.size w).alloc (Nat.le_refl _) _
  obtain ⟨G, hG⟩ : ∃ G, planA ls l bs rs = G := ⟨_, rfl⟩
  have HC := Lib.hid (specPlan_b hG _ wa (HV.out.below HA.out) hx)
  have HWA := Lib.hid hwa
  have HATS := Lib.hid hats
  have HATT := Lib.hid hatt
  have HXT := Lib.hid hxt
  obtain ⟨c0, c1, c2, c3⟩ := P0.out.cells
  clear hwa hats hatt hx hxt
  rcases G with _ | _
  · have HT : Hid (srcA ls l bs rs ts = false) := src_noP hG
    clear hG
    go_enter Try.func20, Try.ntmps20
    go_wp2_with fail
    rw [← HWA.out]
    refine HC.out.mono ?_
    rintro e w1 ⟨rfl, hb1⟩
    have HB1 := Lib.hid (bth HA.out hb1 (Nat.le_refl _))
    clear hb1 c0 c1 c2 c3
    go_wp2_with fail
    go_ret
    exact ⟨ret_bool HT.out.symm, HB1.out⟩
  by_cases hb : ts.length = bs.length
  · have eb : ((ts.length : Int) != (bs.length : Int)) = false := by simp [hb]
    have HGG := Lib.hid hG
    have HBL := Lib.hid hb
    have hb10 : bs.length ≤ 10 := by obtain ⟨g, h1, _⟩ := plan_parts hG; have := g.high; omega
    clear hG hb
    go_enter Try.func20, Try.ntmps20
    go_wp2_with fail
    rw [← HWA.out]
    refine HC.out.mono ?_
    rintro e w1 ⟨rfl, hb1⟩
    have HB1 := Lib.hid hb1
    clear hb1 c0 c1 c2 c3 HC
    obtain ⟨c0, c1, c2, c3⟩ := (P0.out.below HB1.out hsz).cells
    go_wp2_with fail
    clear c0 c1 c2 c3
    go_loopw [20] (fun i wr => ∃ k : Nat, k ≤ ts.length ∧ i = .int .i64 k ∧ Hid (Below wa.heap.size wa wr) ∧ Hid (∀ j, j < k → srcP bs ts j = true)) (fun i _ => ts.length - (intOf i).toNat)
    case atStart => exact ⟨0, Nat.zero_le _, rfl, HB1.out, fun j hj => by omega⟩
    case round =>
      clear HB1
      obtain ⟨k, hk, rfl, HB, HO⟩ := hrel
      have HBW := Lib.hid (bth HA.out HB.out (Nat.le_refl _))
      by_cases hlt : k < ts.length
      · have hkb : k < bs.length := by have := HBL.out; omega
        obtain ⟨gb, ob, rfl, hgb, hcb⟩ := HATS.out k hkb
        obtain ⟨gt, ot, rfl, hgt, hct⟩ := HATT.out k hlt
        have s1 := (HBW.out.cell (p := ⟨gb, ob + k, none⟩) hgb).trans hcb
        have s2 := (HBW.out.cell (p := ⟨gt, ot + k, none⟩) hgt).trans hct
        have hxl := HXT.out _ (List.getElem_mem hlt)
        obtain ⟨b2, hb2⟩ : ∃ b, decide (ts[k].length ≤ 40) = b := ⟨_, rfl⟩
        obtain ⟨b4, hb4⟩ : ∃ b, decide (ts[k] = []) = b := ⟨_, rfl⟩
        have e4 := nil_b hb4
        have e2 : decide ((ts[k].length : Int) > 40) = !b2 := by rw [← hb2, Bool.eq_iff_iff]; simp <;> omega
        have HCL := Lib.hid (fun W => longR_b hb2 W hxl)
        have HS : Hid (if b2 && (bs[k] || b4) then (∀ j, j < k + 1 → srcP bs ts j = true) else srcA ls l bs rs ts = false) := by
          have hPP : srcP bs ts k = (b2 && (bs[k] || b4)) := by rw [srcP_at hkb hlt, hb2, hb4]
          unfold Hid
          split
          · rename_i h; exact src_next HO.out (by rw [hPP]; exact h)
          · rename_i h; exact src_bad hlt (by rw [hPP]; simpa using h)
        have hki : (k : Int) < (bs.length : Int) := by omega
        obtain ⟨c0, c1, c2, c3⟩ := (P0.out.below HB.out hsz).cells
        clear hcb hct hb2 hb4 HATS HATT HXT HO
        generalize ts[k] = x at *
        generalize bs[k] = s at *
        unfold maxLen at hxl
        rcases b2 with _ | _
        · simp only [Bool.not_false] at e2
          go_wp2_with fail
          go_ret
          exact ⟨ret_bool (by have := HS.out; simpa using this.symm), HBW.out⟩
        · simp only [Bool.not_true] at e2
          rcases s with _ | _
          · rcases b4 with _ | _
            · go_wp2_with fail
              go_ret
              exact ⟨ret_bool (by have := HS.out; simpa using this.symm), HBW.out⟩
            · go_wp2_with fail
              go_roundw
              case rel => exact ⟨k + 1, by omega, by go_num, HB, by have := HS.out; simpa [Hid] using this⟩
              case measure => simp [intOf]; omega
          · clear e4
            go_wp2_with fail
            go_roundw
            case rel => exact ⟨k + 1, by omega, by go_num, HB, by have := HS.out; simpa [Hid] using this⟩
            case measure => simp [intOf]; omega
      · have HT : Hid (srcA ls l bs rs ts = true) := src_end (by omega) HGG.out HBL.out HO.out
        clear HO HATS HATT
        go_wp2_with fail
        go_ret
        exact ⟨ret_bool HT.out.symm, HBW.out⟩
  · have eb : ((ts.length : Int) != (bs.length : Int)) = true := by simp; omega
    have HT : Hid (srcA ls l bs rs ts = false) := src_noL hb
    clear hG hb
    go_enter Try.func20, Try.ntmps20
    go_wp2_with fail
    rw [← HWA.out]
    refine HC.out.mono ?_
    rintro e w1 ⟨rfl, hb1⟩
    have HB1 := Lib.hid (bth HA.out hb1 (Nat.le_refl _))
    obtain ⟨d0, d1, d2, d3⟩ := (P0.out.below hb1 hsz).cells
    clear hb1 c0 c1 c2 c3
    go_wp2_with fail
    go_ret
    exact ⟨ret_bool HT.out.symm, HB1.out⟩

set_option maxRecDepth 20000 in
set_option maxHeartbeats 8000000 in
theorem implSrc_any (ls : List (List Int)) (l : List Int) (bs : List Bool) (rs : List (List OpT)) (ts : List (List UInt8)) (v u : Value) (w : World) (hp : PlanV w v ls l bs rs) (hu : RowV w u (S ts)) (hx : ∀ l ∈ rs, ∀ f ∈ l, f.2.2.length ≤ maxLen) (hxt : ∀ x ∈ ts, x.length ≤ maxLen) :
    Calls Try.prog 24 #[v, u] w (BoolPost (srcA ls l bs rs ts) w) := by
  have HV := Lib.hid hp
  obtain ⟨nv, ov, sv, rv, rfl, h1, h2, h3, h4⟩ := hp
  obtain ⟨as0, cs, rfl, hs1, hs2, hats⟩ := h3.boolsW
  obtain ⟨an, cn, rfl, hn1, hn2, _⟩ := h1.lists
  obtain ⟨ao, co, rfl, ho1, ho2, _⟩ := h2.ints
  obtain ⟨ar, cr, rfl, hr1, hr2, _⟩ := h4.lists
  obtain ⟨at0, ct, rfl, ht1, ht2, hatt⟩ := hu.texts
  clear h1 h2 h3 h4 hu
  unfold maxLen at hs2 hn2 ho2 hr2 ht2
  obtain ⟨wa, hwa⟩ : ∃ wa, wa = w.alloc (.cells #[.slice an ls.length cn, .slice ao l.length co, .slice as0 bs.length cs, .slice ar rs.length cr] 38) := ⟨_, rfl⟩
  have hsz : w.heap.size < wa.heap.size := by rw [hwa]; simp
  have P0 : Hid (Blk4 wa w.heap.size 38 (.slice an ls.length cn) (.slice ao l.length co) (.slice as0 bs.length cs) (.slice ar rs.length cr)) := by rw [hwa]; exact Blk4.new
  have HA : Hid (Below w.heap.size w wa) := by rw [hwa]; exact (Below.refl w.heap.size w).alloc (Nat.le_refl _) _
  obtain ⟨G, hG⟩ : ∃ G, planA ls l bs rs = G := ⟨_, rfl⟩
  have HC := Lib.hid (implPlan_b hG _ wa (HV.out.below HA.out) hx)
  have HWA := Lib.hid hwa
  have HATS := Lib.hid hats
  have HATT := Lib.hid hatt
  have HXT := Lib.hid hxt
  obtain ⟨c0, c1, c2, c3⟩ := P0.out.cells
  clear hwa hats hatt hx hxt
  rcases G with _ | _
  · have HT : Hid (srcA ls l bs rs ts = false) := src_noP hG
    clear hG
    go_enter Try.func24, Try.ntmps24
    go_wp2_with fail
    rw [← HWA.out]
    refine HC.out.mono ?_
    rintro e w1 ⟨rfl, hb1⟩
    have HB1 := Lib.hid (bth HA.out hb1 (Nat.le_refl _))
    clear hb1 c0 c1 c2 c3
    go_wp2_with fail
    go_ret
    exact ⟨ret_bool HT.out.symm, HB1.out⟩
  by_cases hb : ts.length = bs.length
  · have eb : ((ts.length : Int) != (bs.length : Int)) = false := by simp [hb]
    have HGG := Lib.hid hG
    have HBL := Lib.hid hb
    have hb10 : bs.length ≤ 10 := by obtain ⟨g, h1, _⟩ := plan_parts hG; have := g.high; omega
    clear hG hb
    go_enter Try.func24, Try.ntmps24
    go_wp2_with fail
    rw [← HWA.out]
    refine HC.out.mono ?_
    rintro e w1 ⟨rfl, hb1⟩
    have HB1 := Lib.hid hb1
    clear hb1 c0 c1 c2 c3 HC
    obtain ⟨c0, c1, c2, c3⟩ := (P0.out.below HB1.out hsz).cells
    go_wp2_with fail
    clear c0 c1 c2 c3
    go_loopw [20] (fun i wr => ∃ k : Nat, k ≤ ts.length ∧ i = .int .i64 k ∧ Hid (Below wa.heap.size wa wr) ∧ Hid (∀ j, j < k → srcP bs ts j = true)) (fun i _ => ts.length - (intOf i).toNat)
    case atStart => exact ⟨0, Nat.zero_le _, rfl, HB1.out, fun j hj => by omega⟩
    case round =>
      clear HB1
      obtain ⟨k, hk, rfl, HB, HO⟩ := hrel
      have HBW := Lib.hid (bth HA.out HB.out (Nat.le_refl _))
      by_cases hlt : k < ts.length
      · have hkb : k < bs.length := by have := HBL.out; omega
        obtain ⟨gb, ob, rfl, hgb, hcb⟩ := HATS.out k hkb
        obtain ⟨gt, ot, rfl, hgt, hct⟩ := HATT.out k hlt
        have s1 := (HBW.out.cell (p := ⟨gb, ob + k, none⟩) hgb).trans hcb
        have s2 := (HBW.out.cell (p := ⟨gt, ot + k, none⟩) hgt).trans hct
        have hxl := HXT.out _ (List.getElem_mem hlt)
        obtain ⟨b2, hb2⟩ : ∃ b, decide (ts[k].length ≤ 40) = b := ⟨_, rfl⟩
        obtain ⟨b4, hb4⟩ : ∃ b, decide (ts[k] = []) = b := ⟨_, rfl⟩
        have e4 := nil_b hb4
        have e2 : decide ((ts[k].length : Int) > 40) = !b2 := by rw [← hb2, Bool.eq_iff_iff]; simp <;> omega
        have HCL := Lib.hid (fun W => longR_b hb2 W hxl)
        have HS : Hid (if b2 && (bs[k] || b4) then (∀ j, j < k + 1 → srcP bs ts j = true) else srcA ls l bs rs ts = false) := by
          have hPP : srcP bs ts k = (b2 && (bs[k] || b4)) := by rw [srcP_at hkb hlt, hb2, hb4]
          unfold Hid
          split
          · rename_i h; exact src_next HO.out (by rw [hPP]; exact h)
          · rename_i h; exact src_bad hlt (by rw [hPP]; simpa using h)
        have hki : (k : Int) < (bs.length : Int) := by omega
        obtain ⟨c0, c1, c2, c3⟩ := (P0.out.below HB.out hsz).cells
        clear hcb hct hb2 hb4 HATS HATT HXT HO
        generalize ts[k] = x at *
        generalize bs[k] = s at *
        unfold maxLen at hxl
        rcases b2 with _ | _
        · clear e2
          go_wp2_with fail
          refine (HCL.out wr).mono ?_
          rintro e w2 ⟨rfl, rfl⟩
          go_wp2_with fail
          go_ret
          exact ⟨ret_bool (by have := HS.out; simpa using this.symm), HBW.out⟩
        · clear e2
          rcases s with _ | _
          · rcases b4 with _ | _
            · go_wp2_with fail
              refine (HCL.out wr).mono ?_
              rintro e w2 ⟨rfl, rfl⟩
              go_wp2_with fail
              go_ret
              exact ⟨ret_bool (by have := HS.out; simpa using this.symm), HBW.out⟩
            · go_wp2_with fail
              refine (HCL.out wr).mono ?_
              rintro e w2 ⟨rfl, rfl⟩
              go_wp2_with fail
              go_roundw
              case rel => exact ⟨k + 1, by omega, by go_num, HB, by have := HS.out; simpa [Hid] using this⟩
              case measure => simp [intOf]; omega
          · clear e4
            go_wp2_with fail
            refine (HCL.out wr).mono ?_
            rintro e w2 ⟨rfl, rfl⟩
            go_wp2_with fail
            go_roundw
            case rel => exact ⟨k + 1, by omega, by go_num, HB, by have := HS.out; simpa [Hid] using this⟩
            case measure => simp [intOf]; omega
      · have HT : Hid (srcA ls l bs rs ts = true) := src_end (by omega) HGG.out HBL.out HO.out
        clear HO HATS HATT
        go_wp2_with fail
        go_ret
        exact ⟨ret_bool HT.out.symm, HBW.out⟩
  · have eb : ((ts.length : Int) != (bs.length : Int)) = true := by simp; omega
    have HT : Hid (srcA ls l bs rs ts = false) := src_noL hb
    clear hG hb
    go_enter Try.func24, Try.ntmps24
    go_wp2_with fail
    rw [← HWA.out]
    refine HC.out.mono ?_
    rintro e w1 ⟨rfl, hb1⟩
    have HB1 := Lib.hid (bth HA.out hb1 (Nat.le_refl _))
    obtain ⟨d0, d1, d2, d3⟩ := (P0.out.below hb1 hsz).cells
    clear hb1 c0 c1 c2 c3
    go_wp2_with fail
    go_ret
    exact ⟨ret_bool HT.out.symm, HB1.out⟩

end Go.Proofs.Ytcfhfhpdnjaokaa

/- Walks: whether there is such a task, where it stands. -/
namespace Go.Proofs.Ytcfhfhpdnjaokaa
open Go.RowKit Pth

/-- There is such a task, in a good graph. -/
noncomputable def taskG (ls : List (List Int)) (l : List Int) (k : Int) : Bool := goodG ls l && (decide (0 ≤ k) && decide (k < (ls.length : Int)))
theorem taskG_yes {ls : List (List Int)} {l : List Int} {k : Int} (h : taskG ls l k = true) : GoodG ls l ∧ 0 ≤ k ∧ k < (ls.length : Int) := by
  unfold taskG at h
  simp only [Bool.and_eq_true, decide_eq_true_eq] at h
  exact ⟨goodG_iff.1 h.1, h.2⟩
theorem taskG_good {ls : List (List Int)} {l : List Int} {k : Int} (h : goodG ls l = false) : taskG ls l k = false := by unfold taskG; rw [h]; rfl
theorem taskG_in {ls : List (List Int)} {l : List Int} {k : Int} (h : goodG ls l = true) : taskG ls l k = (decide (0 ≤ k) && decide (k < (ls.length : Int))) := by unfold taskG; rw [h]; rfl

theorem l1In_task {k : Int} {n : Nat} {w : World} {b : Bool} (h : (decide (0 ≤ k) && decide (k < (n : Int))) = b) :
    Calls Try.prog 58 #[.int .i64 k, .int .i64 0, .int .i64 ((n : Int) - 1)] w fun e w' => e = .returned (.bool b) ∧ w = w' := by
  have e : (decide (0 ≤ k) && decide (k ≤ (n : Int) - 1)) = b := by rw [← h, Bool.eq_iff_iff]; simp; omega
  have := l1In_any k 0 ((n : Int) - 1) w
  rw [e] at this
  exact this

/-- Where a task stands, and whether there is such a one. -/
noncomputable def placeA (ls : List (List Int)) (l : List Int) (k : Int) : Int := if taskG ls l k then placeI l k else 0
def PlacePost (ls : List (List Int)) (l : List Int) (k : Int) (w : World) (e : Ending) (w' : World) : Prop := e = .returned (.tuple #[.int .i64 (placeA ls l k), .bool (taskG ls l k)]) ∧ Below w.heap.size w w'

end Go.Proofs.Ytcfhfhpdnjaokaa

/- Plain mathematics of ways of needs: how far, by a queue and along the order; no program. -/
namespace Go.Proofs.Ytcfhfhpdnjaokaa
namespace Pth

/-- What a task needs. -/
def needsAt (ls : List (List Int)) (k : Int) : List Int := ls.getD k.toNat []
theorem needsAt_get {ls : List (List Int)} {k : Nat} (hk : k < ls.length) : needsAt ls k = ls[k] := by
  unfold needsAt; simp [hk]
/-- So many needs lead from a task to t. -/
def Way (ls : List (List Int)) (t : Int) : Nat → Int → Prop
  | 0, k => k = t
  | m + 1, k => ∃ x ∈ needsAt ls k, Way ls t m x
/-- How many at least, -1 for none. -/
def IsFar (ls : List (List Int)) (t k d : Int) : Prop := (∃ m : Nat, d = m ∧ Way ls t m k ∧ ∀ j, j < m → ¬ Way ls t j k) ∨ (d = -1 ∧ ∀ m, ¬ Way ls t m k)
theorem far_exists (ls : List (List Int)) (t k : Int) : ∃ d, IsFar ls t k d := by
  rcases Classical.em (∃ m, Way ls t m k) with ⟨m, hm⟩ | h
  · induction m using Nat.strongRecOn with
    | ind m ih =>
      rcases Classical.em (∃ j, j < m ∧ Way ls t j k) with ⟨j, hj, hw⟩ | h
      · exact ih j hj hw
      · exact ⟨m, .inl ⟨m, rfl, hm, fun j hj hw => h ⟨j, hj, hw⟩⟩⟩
  · exact ⟨-1, .inr ⟨rfl, fun m hm => h ⟨m, hm⟩⟩⟩
theorem far_one {ls : List (List Int)} {t k d e : Int} (h : IsFar ls t k d) (h' : IsFar ls t k e) : d = e := by
  rcases h with ⟨m, rfl, h1, h2⟩ | ⟨rfl, h1⟩ <;> rcases h' with ⟨m', rfl, h1', h2'⟩ | ⟨rfl, h1'⟩
  · rcases Nat.lt_trichotomy m m' with h | h | h
    · exact absurd h1 (h2' m h)
    · rw [h]
    · exact absurd h1' (h2 m' h)
  · exact absurd h1 (h1' m)
  · exact absurd h1' (h1 m')
  · rfl
noncomputable def farI (ls : List (List Int)) (t k : Int) : Int := Classical.choose (far_exists ls t k)
theorem farI_is (ls : List (List Int)) (t k : Int) : IsFar ls t k (farI ls t k) := Classical.choose_spec (far_exists ls t k)
theorem farI_eq {ls : List (List Int)} {t k d : Int} (h : IsFar ls t k d) : farI ls t k = d := far_one (farI_is ls t k) h
theorem farI_low (ls : List (List Int)) (t k : Int) : -1 ≤ farI ls t k := by
  rcases farI_is ls t k with ⟨m, h, _⟩ | ⟨h, _⟩ <;> omega
theorem farI_self (ls : List (List Int)) (t : Int) : farI ls t t = 0 := farI_eq (.inl ⟨0, rfl, rfl, fun j hj => by omega⟩)
theorem farI_zero {ls : List (List Int)} {t k : Int} (h : farI ls t k = 0) : k = t := by
  rcases farI_is ls t k with ⟨m, hm, h1, _⟩ | ⟨hm, _⟩
  · have : m = 0 := by omega
    subst this; exact h1
  · omega
theorem farI_le {ls : List (List Int)} {t k : Int} {m : Nat} (h : Way ls t m k) : 0 ≤ farI ls t k ∧ farI ls t k ≤ m := by
  rcases farI_is ls t k with ⟨j, hj, h1, h2⟩ | ⟨_, h1⟩
  · rcases Nat.lt_or_ge m j with h' | h'
    · exact absurd h (h2 m h')
    · omega
  · exact absurd h (h1 m)
theorem farI_way {ls : List (List Int)} {t k : Int} (h : 0 ≤ farI ls t k) : Way ls t (farI ls t k).toNat k := by
  rcases farI_is ls t k with ⟨j, hj, h1, h2⟩ | ⟨h', _⟩
  · rw [hj]; exact h1
  · omega
/-- The next one on a shortest way. -/
theorem far_next {ls : List (List Int)} {t k : Int} {m : Nat} (h : farI ls t k = (m : Int) + 1) : ∃ x ∈ needsAt ls k, farI ls t x = m := by
  have hw := farI_way (ls := ls) (t := t) (k := k) (by omega)
  rw [h, show ((m : Int) + 1).toNat = m + 1 by omega] at hw
  obtain ⟨x, hx, hxw⟩ := hw
  refine ⟨x, hx, ?_⟩
  have h1 := farI_le hxw
  by_cases h' : farI ls t x < m
  · have h2 := farI_way h1.1
    have h3 : Way ls t ((farI ls t x).toNat + 1) k := ⟨x, hx, h2⟩
    have h4 := farI_le h3
    omega
  · omega
theorem far_edge {ls : List (List Int)} {t k x : Int} (hx : x ∈ needsAt ls k) (h : 0 ≤ farI ls t x) : 0 ≤ farI ls t k ∧ farI ls t k ≤ farI ls t x + 1 := by
  have h3 : Way ls t ((farI ls t x).toNat + 1) k := ⟨x, hx, farI_way h⟩
  have h4 := farI_le h3
  omega

/-- The next ones least. -/
noncomputable def nextI (ls : List (List Int)) (t k : Int) : Int := ((needsAt ls k).find? (fun x => decide (farI ls t x = farI ls t k - 1))).getD t
noncomputable def wayL (ls : List (List Int)) (t : Int) : Nat → Int → List Int
  | 0, k => [k]
  | m + 1, k => k :: wayL ls t m (nextI ls t k)
theorem next_at {ls : List (List Int)} {t k : Int} {j : Nat} (hj : j < (needsAt ls k).length) (h : ∀ i (hi : i < j), farI ls t (needsAt ls k)[i] ≠ farI ls t k - 1) (he : farI ls t (needsAt ls k)[j] = farI ls t k - 1) : nextI ls t k = (needsAt ls k)[j] := by
  have : (needsAt ls k).find? (fun x => decide (farI ls t x = farI ls t k - 1)) = some (needsAt ls k)[j] := by
    rw [List.find?_eq_some_iff_getElem]
    refine ⟨by simpa using he, j, hj, rfl, fun i hi => ?_⟩
    have := h i hi
    simpa using this
  unfold nextI
  rw [this]; rfl
theorem next_far {ls : List (List Int)} {t k : Int} {m : Nat} (h : farI ls t k = (m : Int) + 1) : farI ls t (nextI ls t k) = m ∧ nextI ls t k ∈ needsAt ls k := by
  obtain ⟨x, hx, hf⟩ := far_next h
  have : ((needsAt ls k).find? (fun x => decide (farI ls t x = farI ls t k - 1))).isSome = true := by
    rw [List.find?_isSome]
    exact ⟨x, hx, by simp; omega⟩
  obtain ⟨y, hy⟩ := Option.isSome_iff_exists.1 this
  have h1 := List.find?_some hy
  have h2 := List.mem_of_find?_eq_some hy
  simp only [decide_eq_true_eq] at h1
  unfold nextI
  rw [hy]
  exact ⟨by simp only [Option.getD_some]; omega, h2⟩
theorem wayL_len (ls : List (List Int)) (t : Int) (m : Nat) (k : Int) : (wayL ls t m k).length = m + 1 := by
  induction m generalizing k with
  | zero => rfl
  | succ m ih => rw [wayL, List.length_cons, ih]

/-- What the queue keeps while one is looked at: those that are behind it, those that are left. -/
structure Spread (ls : List (List Int)) (t : Int) (out : List Int) (all : List Int) : Prop where
  len : out.length = ls.length
  self : t ∈ all ∧ out.getD t.toNat (-1) = 0
  sound : ∀ k : Nat, k < ls.length → (out.getD k (-1) = -1 ∧ (k : Int) ∉ all) ∨ (0 ≤ out.getD k (-1) ∧ (k : Int) ∈ all ∧ Way ls t (out.getD k (-1)).toNat k)
  range : ∀ k ∈ all, 0 ≤ k ∧ k < (ls.length : Int)
  nodup : all.Nodup
/-- How far by the list so far. -/
def at' (out : List Int) (k : Int) : Int := out.getD k.toNat (-1)
structure Front (ls : List (List Int)) (t : Int) (out : List Int) (done queue : List Int) : Prop where
  spread : Spread ls t out (done ++ queue)
  sorted : queue.Pairwise (fun a b => at' out a ≤ at' out b)
  near : ∀ q r, queue = q :: r → ∀ p ∈ done ++ queue, at' out p ≤ at' out q + 1
  closed : ∀ x ∈ done, ∀ k : Nat, (hk : k < ls.length) → x ∈ ls[k] → (k : Int) ∈ done ++ queue ∧ at' out k ≤ at' out x + 1
structure Inner (ls : List (List Int)) (t : Int) (out : List Int) (done : List Int) (x : Int) (d : Int) (queue us : List Int) : Prop where
  spread : Spread ls t out (done ++ x :: queue)
  dist : at' out x = d
  d0 : 0 ≤ d
  sorted : queue.Pairwise (fun a b => at' out a ≤ at' out b)
  least : ∀ q ∈ queue, d ≤ at' out q
  near : ∀ p ∈ done ++ x :: queue, at' out p ≤ d + 1
  closed : ∀ y ∈ done, ∀ k : Nat, (hk : k < ls.length) → y ∈ ls[k] → (k : Int) ∈ done ++ x :: queue ∧ at' out k ≤ at' out y + 1
  seen : ∀ k ∈ us, k ∈ done ++ x :: queue

theorem at_start {n : Nat} {t : Nat} (ht : t < n) (k : Nat) (hk : k < n) : ((List.replicate n (-1 : Int)).set t 0).getD k (-1) = if k = t then 0 else -1 := by
  rw [List.getD_eq_getElem?_getD, List.getElem?_set]
  by_cases h : t = k
  · subst h; simp [ht]
  · rw [if_neg h, if_neg (fun e => h e.symm)]; simp [hk]
theorem Front.start {ls : List (List Int)} {t : Nat} (ht : t < ls.length) : Front ls t ((List.replicate ls.length (-1)).set t 0) [] [(t : Int)] := by
  refine ⟨⟨by simp, ⟨by simp, ?_⟩, fun k hk => ?_, fun k hk => ?_, by simp⟩, by simp, fun q r h p hp => ?_, by simp⟩
  · rw [show ((t : Int)).toNat = t by omega, at_start ht t ht, if_pos rfl]
  · rw [at_start ht k hk]
    by_cases h : k = t
    · subst h; rw [if_pos rfl]; exact .inr ⟨by omega, by simp, rfl⟩
    · rw [if_neg h]; exact .inl ⟨rfl, by simp; omega⟩
  · simp at hk; omega
  · simp only [List.nil_append, List.mem_singleton] at hp
    injection h with h1 h2
    rw [hp, ← h1]; omega
theorem Front.open {ls : List (List Int)} {t : Int} {out done queue : List Int} {x : Int} (h : Front ls t out done (x :: queue)) : Inner ls t out done x (at' out x) queue [] := by
  have hx := h.spread.range x (by simp)
  have h2 := List.pairwise_cons.1 h.sorted
  refine ⟨h.spread, rfl, ?_, h2.2, fun q hq => h2.1 q hq, fun p hp => h.near x queue rfl p hp, h.closed, by simp⟩
  rcases h.spread.sound x.toNat (by omega) with h3 | h3
  · rw [show ((x.toNat : Nat) : Int) = x by omega] at h3; exact absurd (by simp) h3.2
  · exact h3.1
theorem Inner.close {ls : List (List Int)} {t : Int} {out done queue us : List Int} {x d : Int} (h : Inner ls t out done x d queue us) (hus : ∀ k : Nat, (hk : k < ls.length) → x ∈ ls[k] → (k : Int) ∈ us) : Front ls t out (done ++ [x]) queue := by
  have e : done ++ [x] ++ queue = done ++ x :: queue := by simp
  refine ⟨by rw [e]; exact h.spread, h.sorted, fun q r hq p hp => ?_, fun y hy k hk hm => ?_⟩
  · rw [e] at hp
    have h1 := h.near p hp
    have h2 := h.least q (by rw [hq]; simp)
    omega
  · rw [e]
    rw [List.mem_append, List.mem_singleton] at hy
    rcases hy with hy | rfl
    · exact h.closed y hy k hk hm
    · have := h.seen k (hus k hk hm)
      exact ⟨this, by have := h.near k this; rw [h.dist]; exact this⟩
theorem Inner.skip {ls : List (List Int)} {t : Int} {out done queue us : List Int} {x d : Int} {k : Nat} (h : Inner ls t out done x d queue us) (hk : k < ls.length) (hs : ¬ at' out k < 0) : Inner ls t out done x d queue (us ++ [(k : Int)]) := by
  refine ⟨h.spread, h.dist, h.d0, h.sorted, h.least, h.near, h.closed, fun j hj => ?_⟩
  rw [List.mem_append, List.mem_singleton] at hj
  rcases hj with hj | rfl
  · exact h.seen j hj
  · rcases h.spread.sound k hk with h1 | h1
    · exact absurd (show at' out k < 0 by unfold at'; rw [show ((k : Int)).toNat = k by omega, h1.1]; omega) hs
    · exact h1.2.1
theorem set_at {out : List Int} {k j : Nat} {e : Int} (hk : k < out.length) : (out.set k e).getD j (-1) = if j = k then e else out.getD j (-1) := by
  rw [List.getD_eq_getElem?_getD, List.getElem?_set, List.getD_eq_getElem?_getD]
  by_cases h : k = j
  · subst h; simp [hk]
  · rw [if_neg h, if_neg (fun e => h e.symm)]
theorem Inner.put {ls : List (List Int)} {t : Int} {out done queue us : List Int} {x d : Int} {k : Nat} (h : Inner ls t out done x d queue us) (hk : k < ls.length) (hm : x ∈ ls[k]) (hs : at' out k < 0) :
    Inner ls t (out.set k (d + 1)) done x d (queue ++ [(k : Int)]) (us ++ [(k : Int)]) := by
  have hkl : k < out.length := by rw [h.spread.len]; exact hk
  have hno : (k : Int) ∉ done ++ x :: queue := by
    rcases h.spread.sound k hk with h1 | h1
    · exact h1.2
    · exact absurd h1.1 (by unfold at' at hs; rw [show ((k : Int)).toNat = k by omega] at hs; omega)
  have e : done ++ x :: (queue ++ [(k : Int)]) = (done ++ x :: queue) ++ [(k : Int)] := by simp
  have same : ∀ p ∈ done ++ x :: queue, at' (out.set k (d + 1)) p = at' out p := by
    intro p hp
    have hr := h.spread.range p hp
    unfold at'
    rw [set_at hkl, if_neg]
    intro he
    exact hno (by rw [← he, show ((p.toNat : Nat) : Int) = p by omega]; exact hp)
  have new : at' (out.set k (d + 1)) k = d + 1 := by
    unfold at'
    rw [show ((k : Int)).toNat = k by omega, set_at hkl, if_pos rfl]
  have hx := h.spread.range x (by simp)
  have hway : Way ls t d.toNat x := by
    rcases h.spread.sound x.toNat (by omega) with h1 | h1
    · rw [show ((x.toNat : Nat) : Int) = x by omega] at h1; exact absurd (by simp) h1.2
    · have := h1.2.2
      rw [show ((x.toNat : Nat) : Int) = x by omega] at this
      have hd := h.dist
      unfold at' at hd
      rw [hd] at this; exact this
  have d0 := h.d0
  refine ⟨⟨by rw [List.length_set]; exact h.spread.len, ⟨by rw [e]; exact List.mem_append.2 (.inl h.spread.self.1), ?_⟩, fun j hj => ?_, fun j hj => ?_, ?_⟩, by rw [same x (by simp)]; exact h.dist, d0, ?_, fun q hq => ?_, fun p hp => ?_, fun y hy j hj hym => ?_, fun j hj => ?_⟩
  · have := same t h.spread.self.1
    unfold at' at this
    rw [this]; exact h.spread.self.2
  · rw [e, set_at hkl]
    by_cases hjk : j = k
    · subst hjk
      rw [if_pos rfl]
      refine .inr ⟨by omega, by simp, ?_⟩
      rw [show (d + 1).toNat = d.toNat + 1 by omega]
      exact ⟨x, by rw [needsAt_get hj]; exact hm, hway⟩
    · rw [if_neg hjk]
      rcases h.spread.sound j hj with h1 | h1
      · exact .inl ⟨h1.1, by rw [List.mem_append, List.mem_singleton]; rintro (h2 | h2); exact h1.2 h2; omega⟩
      · exact .inr ⟨h1.1, List.mem_append.2 (.inl h1.2.1), h1.2.2⟩
  · rw [e, List.mem_append, List.mem_singleton] at hj
    rcases hj with hj | rfl
    · exact h.spread.range j hj
    · omega
  · rw [e, List.nodup_append]
    refine ⟨h.spread.nodup, by simp, fun a ha b hb => ?_⟩
    rw [List.mem_singleton] at hb
    rintro rfl
    exact hno (by rw [← hb]; exact ha)
  · rw [List.pairwise_append]
    refine ⟨h.sorted.imp_of_mem (fun ha hb hab => by rw [same _ (by simp [ha]), same _ (by simp [hb])]; exact hab), by simp, fun a ha b hb => ?_⟩
    rw [List.mem_singleton] at hb
    rw [hb, new, same a (by simp [ha])]
    exact h.near a (by simp [ha])
  · rw [List.mem_append, List.mem_singleton] at hq
    rcases hq with hq | rfl
    · rw [same q (by simp [hq])]; exact h.least q hq
    · rw [new]; omega
  · rw [e, List.mem_append, List.mem_singleton] at hp
    rcases hp with hp | rfl
    · rw [same p hp]; exact h.near p hp
    · rw [new]; omega
  · obtain ⟨h1, h2⟩ := h.closed y hy j hj hym
    rw [e, same _ h1, same y (by simp [hy])]
    exact ⟨List.mem_append.2 (.inl h1), h2⟩
  · rw [e, List.mem_append]
    rw [List.mem_append] at hj
    rcases hj with hj | hj
    · exact .inl (h.seen j hj)
    · exact .inr hj
/-- Where the queue is empty, all is known. -/
theorem Front.done {ls : List (List Int)} {t : Int} {out done : List Int} (hin : ∀ k (hk : k < ls.length), ∀ x ∈ ls[k], 0 ≤ x ∧ x < (ls.length : Int)) (h : Front ls t out done []) : out = (upto ls.length).map (farI ls t) := by
  have hle : ∀ m : Nat, ∀ k : Nat, k < ls.length → Way ls t m k → 0 ≤ out.getD k (-1) ∧ out.getD k (-1) ≤ m := by
    intro m
    induction m with
    | zero =>
      intro k hk hw
      have : (k : Int) = t := hw
      have h1 := h.spread.self.2
      rw [← this, show ((k : Int)).toNat = k by omega] at h1
      rw [h1]; omega
    | succ m ih =>
      intro k hk hw
      obtain ⟨x, hx, hxw⟩ := hw
      rw [needsAt_get hk] at hx
      have hxr := hin k hk x hx
      have hxe : ((x.toNat : Nat) : Int) = x := by omega
      have h1 := ih x.toNat (by omega) (by rw [hxe]; exact hxw)
      have h2 : x ∈ done := by
        rcases h.spread.sound x.toNat (by omega) with h3 | h3
        · omega
        · have := h3.2.1; rw [hxe, List.append_nil] at this; exact this
      obtain ⟨h3, h4⟩ := h.closed x h2 k hk hx
      unfold at' at h4
      rw [show ((k : Int)).toNat = k by omega] at h4
      rcases h.spread.sound k hk with h5 | h5
      · exact absurd h3 h5.2
      · omega
  apply List.ext_getElem (by rw [h.spread.len, List.length_map, upto_len])
  intro k h1 h2
  have hk : k < ls.length := by rw [h.spread.len] at h1; exact h1
  rw [List.getElem_map, upto_get]
  symm
  apply farI_eq
  have hg : out.getD k (-1) = out[k] := by rw [List.getD_eq_getElem?_getD, List.getElem?_eq_getElem h1]; rfl
  rcases h.spread.sound k hk with h3 | h3
  · refine .inr ⟨by rw [← hg]; exact h3.1, fun m hw => ?_⟩
    have := hle m k hk hw
    omega
  · refine .inl ⟨(out.getD k (-1)).toNat, by rw [← hg]; omega, h3.2.2, fun j hj hw => ?_⟩
    have := hle j k hk hw
    omega
theorem Front.room {ls : List (List Int)} {t : Int} {out done queue : List Int} (h : Front ls t out done queue) : done.length + queue.length ≤ ls.length := by
  have := nodup_sub (a := done ++ queue) (b := upto ls.length) h.spread.nodup (fun x hx => mem_upto.2 (h.spread.range x hx))
  rw [upto_len, List.length_append] at this
  exact this
end Pth
end Go.Proofs.Ytcfhfhpdnjaokaa

/- Walks: those that need a task. -/
namespace Go.Proofs.Ytcfhfhpdnjaokaa
open Go.RowKit Pth

/-- Those of the first k that need a task. -/
def usersK (ls : List (List Int)) (t : Int) (k : Nat) : List Int := (upto k).filter (fun i => hasL (needsAt ls i) t)
theorem usersK_yes {ls : List (List Int)} {t : Int} {k : Nat} (hk : k < ls.length) (h : hasL ls[k] t = true) : usersK ls t (k + 1) = usersK ls t k ++ [(k : Int)] := by
  unfold usersK
  rw [upto_succ, List.filter_append]
  simp [needsAt_get hk, h]
theorem usersK_no {ls : List (List Int)} {t : Int} {k : Nat} (hk : k < ls.length) (h : hasL ls[k] t = false) : usersK ls t (k + 1) = usersK ls t k := by
  unfold usersK
  rw [upto_succ, List.filter_append]
  simp [needsAt_get hk, h]
theorem usersK_len (ls : List (List Int)) (t : Int) (k : Nat) : (usersK ls t k).length ≤ k := by
  have := List.length_filter_le (fun i => hasL (needsAt ls i) t) (upto k)
  rw [upto_len] at this
  exact this
def usersL (ls : List (List Int)) (t : Int) : List Int := usersK ls t ls.length
theorem mem_users {ls : List (List Int)} {t x : Int} : x ∈ usersL ls t ↔ (0 ≤ x ∧ x < (ls.length : Int)) ∧ t ∈ needsAt ls x := by
  unfold usersL usersK
  rw [List.mem_filter, mem_upto, hasL, decide_eq_true_iff]

theorem none_ownZ (B e : Nat) (w : World) : w.ownsRow B e 1 (.slice none 0 0) ([] : List Int).length (I []) := ⟨rfl, .inl ⟨rfl, rfl⟩⟩
theorem own_Z {w : World} {B e : Nat} {v : Value} {l : List Int} (h : w.ownsRow B e 1 v l.length (I l)) : w.ownsRow B e 1 v (I l).length (I l) := by rw [I_len]; exact h
theorem own_Z2 {w : World} {B e : Nat} {v : Value} {l : List Int} {x : Int} (h : w.ownsRow B e 1 v (I l ++ [Value.int .i64 x]).length (I l ++ [Value.int .i64 x])) : w.ownsRow B e 1 v (l ++ [x]).length (I (l ++ [x])) := by
  rw [I_append, ← I_len (l ++ [x]), I_append]; exact h

/-- A list of the call's own, and whether it is told. -/
def ListOk (m : List Int) (b : Bool) (w : World) (e : Ending) (w' : World) : Prop := ∃ v', e = .returned (.tuple #[v', .bool b]) ∧ w'.ownsRow w.heap.size 3 1 v' m.length (I m) ∧ Below w.heap.size w w'
noncomputable def usersA (ls : List (List Int)) (l : List Int) (t : Int) : List Int := if taskG ls l t then usersL ls t else []
theorem usersA_no {ls : List (List Int)} {l : List Int} {t : Int} (h : taskG ls l t = false) : usersA ls l t = [] := by unfold usersA; rw [h]; rfl
theorem usersA_yes {ls : List (List Int)} {l : List Int} {t : Int} (h : taskG ls l t = true) : usersA ls l t = usersL ls t := by unfold usersA; rw [h]; rfl
theorem usersA_short (ls : List (List Int)) (l : List Int) (t : Int) : (usersA ls l t).length ≤ 1000000 := by
  rcases h : taskG ls l t with _ | _
  · rw [usersA_no h]; simp
  · rw [usersA_yes h]
    have h1 := (taskG_yes h).1.high
    have h2 := usersK_len ls t ls.length
    unfold usersL
    omega

end Go.Proofs.Ytcfhfhpdnjaokaa

/- Walks: new graphs. -/
namespace Go.Proofs.Ytcfhfhpdnjaokaa
open Go.RowKit Pth

/-- A graph of the call's own, and whether it is told. -/
def GraphOk (ls : List (List Int)) (l : List Int) (b : Bool) (w : World) (e : Ending) (w' : World) : Prop := ∃ v', e = .returned (.tuple #[v', .bool b]) ∧ GraphO w.heap.size w' v' ls l ∧ Below w.heap.size w w'
theorem GraphO.none (B : Nat) (w : World) : GraphO B w (.agg #[.slice none 0 0, .slice none 0 0]) [] [] :=
  ⟨_, _, [], rfl, rfl, ⟨rfl, .inl ⟨rfl, rfl⟩⟩, fun p hp => by
    simp only [List.zip_nil_left, List.nil_append, List.mem_singleton] at hp
    subst hp
    exact ⟨rfl, .inl ⟨rfl, rfl⟩⟩, by simp⟩

/-- What a new list's block holds. -/
theorem make_alloc {t e : TypeId} {z : Value} {bytes : Nat} (E : Elem t e z bytes) (hz : z.cells = #[z]) (n : Nat) (hn : n ≤ 2000000) :
    ∃ cs : Array Value, cs.toList = List.replicate n z ∧ ∀ w : World, (Instr.makeSlice t (.int .i64 (n : Int)) (.int .i64 (n : Int))).run Try.prog w = .ok (.slice (some ⟨w.heap.size, 0, none⟩) n n) (w.alloc (.cells cs e)) := by
  obtain ⟨i0, hi, hz0, hz1, hz2⟩ := info_parts E.info
  refine ⟨madeCells z.cells (n * i0.size), by rw [hz, hz1, Nat.mul_one, toList_madeCells_one], fun w => ?_⟩
  have hb : ((i0.bytes : Int)) * (n : Int) ≤ 281474976710656 := by
    have h : i0.bytes * n ≤ 281474976710656 := by rw [hz2]; exact Nat.le_trans (Nat.mul_le_mul E.small hn) (by decide)
    have h' : ((i0.bytes * n : Nat) : Int) ≤ 281474976710656 := by omega
    rwa [Int.natCast_mul] at h'
  have hr := run_make (P := Try.prog) w t e i0 z E.under hi hz0 .i64 .i64 n n (by omega) (Int.le_refl _) hb (by omega)
  simp only [Int.toNat_natCast] at hr
  exact hr
theorem own_of_heap {w : World} {B e n g : Nat} {cs : Array Value} {xs : List Value} (hh : w.heap[g]? = some (.cells cs e (0, 0))) (hg : B ≤ g) (hx : cs.toList = xs) (hl : xs.length = n) (hn : n ≤ maxLen) : w.ownsRow B e 1 (.slice (some ⟨g, 0, none⟩) n n) n xs := by
  subst hx
  have hs : cs.size = n := by rw [Array.length_toList] at hl; exact hl
  refine ⟨by rw [hl, Nat.mul_one], .inr ⟨g, n, cs, rfl, hg, hh, Nat.le_refl _, hn, by omega, ?_⟩⟩
  rw [Nat.mul_one, ← hl, List.take_length]

/-- Four blocks laid one behind the other. -/
theorem four_new (w : World) (A X Y Z : Array Value) (a x y z : TypeId) :
    let W := ((((w.alloc (.cells A a)).alloc (.cells X x)).alloc (.cells Y y)).alloc (.cells Z z)).drew
    W.heap[w.heap.size]? = some (.cells A a (0, 0)) ∧ W.heap[w.heap.size + 1]? = some (.cells X x (0, 0)) ∧ W.heap[w.heap.size + 1 + 1]? = some (.cells Y y (0, 0)) ∧ W.heap[w.heap.size + 1 + 1 + 1]? = some (.cells Z z (0, 0)) ∧ Below w.heap.size w W := by
  have e1 : (w.alloc (.cells A a)).heap.size = w.heap.size + 1 := by simp
  have e2 : ((w.alloc (.cells A a)).alloc (.cells X x)).heap.size = w.heap.size + 1 + 1 := by simp
  have e3 : (((w.alloc (.cells A a)).alloc (.cells X x)).alloc (.cells Y y)).heap.size = w.heap.size + 1 + 1 + 1 := by simp
  have h0 := heap_alloc_new w (.cells A a)
  have h1 := heap_alloc_new (w.alloc (.cells A a)) (.cells X x)
  have h2 := heap_alloc_new ((w.alloc (.cells A a)).alloc (.cells X x)) (.cells Y y)
  have h3 := heap_alloc_new (((w.alloc (.cells A a)).alloc (.cells X x)).alloc (.cells Y y)) (.cells Z z)
  rw [e1] at h1
  rw [e2] at h2
  rw [e3] at h3
  have o1 := Below.heap_alloc (w.alloc (.cells A a)) (.cells X x)
  have o2 := Below.heap_alloc ((w.alloc (.cells A a)).alloc (.cells X x)) (.cells Y y)
  have o3 := Below.heap_alloc (((w.alloc (.cells A a)).alloc (.cells X x)).alloc (.cells Y y)) (.cells Z z)
  refine ⟨?_, ?_, ?_, h3, ?_⟩
  · exact (o3 _ (by omega)).trans ((o2 _ (by omega)).trans ((o1 _ (by omega)).trans h0))
  · exact (o3 _ (by omega)).trans ((o2 _ (by omega)).trans h1)
  · exact (o3 _ (by omega)).trans h2
  · exact Below.drew (((((Below.refl w.heap.size w).alloc (Nat.le_refl _) _).alloc (by omega) _).alloc (by omega) _).alloc (by omega) _)

theorem own_setNe {w : World} {B e n : Nat} {v : Value} {xs : List Value} (h : w.ownsRow B e 1 v n xs) {p : Addr} (hp : v.ownBlock ≠ some p.block) (u : Value) : (w.setCell p u).ownsRow B e 1 v n xs := by
  refine ⟨h.1, ?_⟩
  rcases h.2 with h0 | ⟨g, cap, cur, hv, hg, hh, r⟩
  · exact .inl h0
  · exact .inr ⟨g, cap, cur, hv, hg, (Below.heap_setCell w p u g (fun e => hp (by rw [hv, ← e]; rfl))).trans hh, r⟩
theorem Blk2.setNe {w : World} {b t : Nat} {x y : Value} (h : Blk2 w b t x y) {p : Addr} (hp : b ≠ p.block) (u : Value) : Blk2 (w.setCell p u) b t x y := (Below.heap_setCell w p u b hp).trans h
/-- The blocks of a new graph. -/
structure NewAt (w : World) (csN csI : Array Value) (n b g1 g2 : Nat) (wx : World) : Prop where
  hb : w.heap.size < b
  hg1 : w.heap.size < g1
  hg2 : w.heap.size < g2
  res : Blk2 wx w.heap.size 35 (.slice none 0 0) (.slice none 0 0)
  blk : Blk2 wx b 35 (.slice (some ⟨g1, 0, none⟩) n n) (.slice (some ⟨g2, 0, none⟩) n n)
  needs : wx.heap[g1]? = some (.cells csN 23 (0, 0))
  order : wx.heap[g2]? = some (.cells csI 3 (0, 0))
  below : Below w.heap.size w wx
theorem blk_ne {w : World} {b t n B e : Nat} {x y : Value} {v : Value} {xs : List Value} (h : Blk2 w b t x y) (ho : w.ownsRow B e 1 v n xs) (he : e ≠ t) : ∀ k, v.ownBlock = some k → b ≠ k := by
  intro k hk hbk
  subst hbk
  rcases ho.2 with ⟨hv, _⟩ | ⟨g, cap, cur, hv, _, hg, _⟩
  · rw [hv] at hk; simp [Value.ownBlock] at hk
  · rw [hv] at hk
    simp only [Value.ownBlock, Option.some.injEq] at hk
    subst hk
    unfold Blk2 at h
    rw [h] at hg
    simp at hg
    exact he hg.2.symm
theorem Blk2.beside {w w' : World} {b t : Nat} {x y : Value} {r : Option Nat} (h : Blk2 w b t x y) (hg : w.grownBy w' r) (hr : r ≠ some b) : Blk2 w' b t x y := (hg.block b (lt_of_block h) (fun e => hr e.symm)).trans h
theorem nil_lists (B : Nat) (w : World) (n : Nat) : Lists B w ((List.replicate n (Value.slice none 0 0)).zip (List.replicate n [])) := by
  rw [List.zip_replicate']
  refine ⟨fun p hp => ?_, ?_⟩
  · rw [List.eq_of_mem_replicate hp]; exact ⟨rfl, .inl ⟨rfl, rfl⟩⟩
  · rw [List.pairwise_replicate]
    exact .inr (fun b h => by simp [Value.ownBlock] at h)
theorem Lists.more {B : Nat} {w : World} {L : List (Value × List Int)} {v : Value} {l : List Int} (h : Lists B w L) (hown : w.ownsRow B 3 1 v l.length (I l)) (ha : ∀ p ∈ L, Apart p (v, l)) : Lists B w (L ++ [(v, l)]) := by
  refine ⟨fun p hp => ?_, ?_⟩
  · rw [List.mem_append, List.mem_singleton] at hp
    rcases hp with hp | rfl
    · exact h.1 p hp
    · exact hown
  · rw [List.pairwise_append]
    refine ⟨h.2, by simp, fun p hp q hq => ?_⟩
    rw [List.mem_singleton] at hq
    subst hq
    exact ha p hp

end Go.Proofs.Ytcfhfhpdnjaokaa

/- A queue of numbers in memory of the call's own: cut at its front, put behind. -/
namespace Go.Proofs.Ytcfhfhpdnjaokaa
open Go.RowKit Pth

/-- A queue in block g. -/
structure OwnQ (B g : Nat) (w : World) (v : Value) (xs : List Int) : Prop where
  hB : B ≤ g
  lies : ∃ o cap cur, v = .slice (some ⟨g, o, none⟩) xs.length cap ∧ w.heap[g]? = some (.cells cur 3 (0, 0)) ∧ xs.length ≤ cap ∧ cap ≤ maxLen ∧ o + cap ≤ cur.size ∧ ∀ j (hj : j < xs.length), w.cell? ⟨g, o + j, none⟩ = some (.int .i64 xs[j])
theorem OwnQ.row {B g : Nat} {w : World} {v : Value} {xs : List Int} (h : OwnQ B g w v xs) : RowV w v (I xs) := by
  obtain ⟨o, cap, cur, hv, hh, h1, h2, h3, hc⟩ := h.lies
  refine ⟨_, cap, by rw [hv, I_len], by rw [I_len]; exact h1, h2, fun k hk => ⟨g, o, rfl, lt_of_block hh, ?_⟩⟩
  rw [I_len] at hk
  rw [hc k hk]
  simp [I]
theorem OwnQ.keep {B g : Nat} {w w' : World} {v : Value} {xs : List Int} (h : OwnQ B g w v xs) (hg : w'.heap[g]? = w.heap[g]?) : OwnQ B g w' v xs := by
  obtain ⟨o, cap, cur, hv, hh, h1, h2, h3, hc⟩ := h.lies
  have hh' := hg.trans hh
  refine ⟨h.hB, o, cap, cur, hv, hh', h1, h2, h3, fun j hj => ?_⟩
  have := hc j hj
  rw [cell_of_row w g (o + j) cur _ (0, 0) hh] at this
  rw [cell_of_row w' g (o + j) cur _ (0, 0) hh']
  exact this
theorem OwnQ.lt {B g : Nat} {w : World} {v : Value} {xs : List Int} (h : OwnQ B g w v xs) : g < w.heap.size := by
  obtain ⟨o, cap, cur, hv, hh, _⟩ := h.lies
  exact lt_of_block hh
theorem OwnQ.below {B g : Nat} {w w' : World} {v : Value} {xs : List Int} (h : OwnQ B g w v xs) (hb : Below w.heap.size w w') : OwnQ B g w' v xs := h.keep (hb.block g h.lt)
/-- Without its first. -/
theorem OwnQ.pop {B g : Nat} {w : World} {v : Value} {x : Int} {xs : List Int} (h : OwnQ B g w v (x :: xs)) :
    ∃ a cap v', v = .slice a (xs.length + 1) cap ∧ (∀ W, (Instr.slice 23 (.slice a (xs.length + 1) cap) (some (.int .i64 1)) none none).run Try.prog W = .ok v' W) ∧ OwnQ B g w v' xs := by
  obtain ⟨o, cap, cur, hv, hh, h1, h2, h3, hc⟩ := h.lies
  rw [List.length_cons] at hv h1
  refine ⟨_, cap, _, hv, fun W => run_cutI (some ⟨g, o, none⟩) (xs.length + 1) cap 1 (by omega) h1 W, h.hB, ?_⟩
  have rest : ∀ j (hj : j < xs.length), w.cell? ⟨g, o + 1 + j, none⟩ = some (.int .i64 xs[j]) := by
    intro j hj
    have := hc (j + 1) (by simp; omega)
    rw [show o + 1 + j = o + (j + 1) by omega, this]
    simp
  by_cases hcap : cap = 1
  · refine ⟨o, 0, cur, ?_, hh, by omega, by unfold maxLen; omega, by omega, fun j hj => by omega⟩
    have : xs.length = 0 := by omega
    rw [if_pos hcap, hcap, this]
  · refine ⟨o + 1, cap - 1, cur, ?_, hh, by omega, by omega, by omega, rest⟩
    rw [if_neg hcap]
    simp [add_addr]
/-- One put behind. -/
theorem OwnQ.push {B g : Nat} {w : World} {v : Value} {xs : List Int} (h : OwnQ B g w v xs) (k : Int) (hl : xs.length ≤ 1000) (ty : TypeId) :
    ∃ v' w' g', (Builtin.append_ #[23, 23] ty #[v, .slice (some ⟨w.heap.size, 0, none⟩) 1 1]).run Try.prog (w.alloc (.cells #[.int .i64 k] 3)) = .ok v' w' ∧ OwnQ B g' w' v' (xs ++ [k]) ∧ w.grownBy w' (some g) ∧ (g' = g ∨ w.heap.size < g') := by
  obtain ⟨i0, hi, hz0, hz1, hz2⟩ := info_parts elemI.info
  have hgs := h.lt
  obtain ⟨o, cap, cur, hv, hh, h1, h2, h3, hc⟩ := h.lies
  have hB := h.hB
  subst hv
  have hnews : ∀ j u, [Value.int .i64 k][j]? = some u → (w.alloc (.cells #[.int .i64 k] 3)).cell? ((⟨w.heap.size, 0, none⟩ : Addr).add j) = some u := one_new w _ _
  have hone : ∀ u ∈ [Value.int .i64 k], u.oneCell' = true := by intro u hu; simp at hu; subst hu; rfl
  have hha : (w.alloc (.cells #[.int .i64 k] 3)).heap[g]? = some (.cells cur 3 (0, 0)) := (Below.heap_alloc w _ g hgs).trans hh
  have hca : ∀ j (hj : j < xs.length), (w.alloc (.cells #[.int .i64 k] 3)).cell? ⟨g, o + j, none⟩ = some (.int .i64 xs[j]) := fun j hj => (World.cell?_alloc_lt w _ _ hgs).trans (hc j hj)
  by_cases hroom : xs.length + 1 ≤ cap
  · have hr := run_append_room_cells (P := Try.prog) (w.alloc (.cells #[.int .i64 k] 3)) 23 ty 3 i0 elemI.under hi g o xs.length cap ⟨w.heap.size, 0, none⟩ 1 1 [.int .i64 k] (by rw [hz1]; rfl) hnews hone hroom
      (fun j hj => by
        have : j = 0 := by simp at hj; omega
        subst this
        rw [hz1, Nat.mul_one, Nat.add_zero, cell_of_row _ g _ cur _ (0, 0) hha, Array.getElem?_eq_getElem (by omega)]; rfl)
      (fun j hj => frozen_of_row _ g _ cur _ hha)
    have e1 : (w.alloc (.cells #[.int .i64 k] 3)).setCells g (o + xs.length * i0.size) [.int .i64 k] = (w.alloc (.cells #[.int .i64 k] 3)).setCell ⟨g, o + xs.length, none⟩ (.int .i64 k) := by rw [hz1, Nat.mul_one]; rfl
    rw [e1] at hr
    have hset := heap_setCell_same (w.alloc (.cells #[.int .i64 k] 3)) g (o + xs.length) cur 3 (.int .i64 k) hha
    refine ⟨_, _, g, hr, ⟨hB, o, cap, _, by rw [List.length_append]; rfl, hset, by simp; omega, h2, by simpa using h3, fun j hj => ?_⟩, ⟨rfl, rfl, rfl, by simp, fun i hi hne => ?_⟩, .inl rfl⟩
    · rw [cell_of_row _ g _ _ _ (0, 0) hset]
      rw [List.length_append, List.length_singleton] at hj
      by_cases hjl : j < xs.length
      · have := hca j hjl
        rw [cell_of_row _ g _ cur _ (0, 0) hha] at this
        rw [List.getElem_append_left hjl, ← this]
        rw [Array.getElem?_setIfInBounds_ne (by omega)]
      · have hje : j = xs.length := by omega
        subst hje
        rw [Array.getElem?_setIfInBounds_self_of_lt (by omega)]
        simp
    · rw [Below.heap_setCell _ _ _ _ (fun e => hne (by rw [e]))]
      exact Below.heap_alloc w _ i hi
  · obtain ⟨v', w', hr, hown, hg⟩ := run_append_arg_grows (P := Try.prog) (w.alloc (.cells #[.int .i64 k] 3)) 23 ty 3 i0 (.int .i64 0) 1 8 elemI.under hi hz0 hz1 hz2 rfl (by decide) ⟨g, o, none⟩ xs.length cap (I xs) (by rw [I_len, Nat.mul_one])
      (fun j u hj => by
        obtain ⟨hj1, hj2⟩ := List.getElem?_eq_some_iff.1 hj
        rw [I_len] at hj1
        rw [add_addr, hca j hj1, ← hj2, I_get hj1])
      ⟨w.heap.size, 0, none⟩ 1 1 [.int .i64 k] rfl hnews (by omega) (by unfold maxLen; omega) (by omega)
    have hcat : I xs ++ [Value.int .i64 k] = I (xs ++ [k]) := by rw [I_append]; rfl
    rw [hcat] at hown
    rcases hown.2 with ⟨_, h0⟩ | ⟨g', cap', cur', hv', hBg, hh', hn', hm', hs', ht'⟩
    · omega
    · have hsz : w.heap.size < g' := by simp at hBg; omega
      refine ⟨v', w', g', hr, ⟨by omega, 0, cap', cur', by rw [hv', List.length_append]; rfl, hh', by rw [List.length_append]; exact hn', hm', by omega, fun j hj => ?_⟩, ⟨hg.os, hg.tape, hg.output, Nat.le_trans (by simp) hg.size, fun i hi hne => (hg.block i (by simp; omega) (by simp)).trans (Below.heap_alloc w _ i hi)⟩, .inr hsz⟩
      subst hv'
      have := hown.cellAt j (by rw [List.length_append] at hj; simpa using hj)
      rw [Nat.zero_add, this, List.getElem?_eq_getElem (by rw [I_len]; exact hj), I_get hj]
end Go.Proofs.Ytcfhfhpdnjaokaa

/- Walks: copies of graphs. -/
namespace Go.Proofs.Ytcfhfhpdnjaokaa
open Go.RowKit Pth

/-- All of a list copied into a new one. -/
theorem copy_all (l : List Int) (a : Option Addr) (cap : Nat) (W : World) (g : Nat) (cs : Array Value) (hrow : RowV W (.slice a l.length cap) (I l)) (hg : W.heap[g]? = some (.cells cs 3 (0, 0))) (hcs : cs.size = l.length) (hl : l.length ≤ 2000000) (B : Nat) (hB : B ≤ g) (_hBW : B ≤ W.heap.size) :
    ∃ W', (∀ ty, (Builtin.copy_ #[23, 23] ty #[.slice (some ⟨g, 0, none⟩) l.length l.length, .slice a l.length cap]).run Try.prog W = .ok (goInt l.length) W') ∧ W'.ownsRow B 3 1 (.slice (some ⟨g, 0, none⟩) l.length l.length) l.length (I l) ∧ W.grownBy W' (some g) := by
  obtain ⟨a', c', he, h1, h2, hat⟩ := hrow.ints
  injection he with he1 _ he3
  subst he1 he3
  by_cases h0 : l.length = 0
  · have hl0 : l = [] := List.eq_nil_of_length_eq_zero h0
    subst hl0
    refine ⟨W, fun ty => run_copy_none (P := Try.prog) W 23 23 ty 3 _ _ _ _ _ _ Try.underlying23 (by kernel_rfl) rfl, ?_, grown_refl _ _⟩
    exact own_of_heap hg hB (by have : cs.size = 0 := hcs; rw [Array.eq_empty_of_size_eq_zero this]; rfl) rfl (by unfold maxLen; omega)
  · obtain ⟨g0, o0, rfl, hg0, _⟩ := hat 0 (by omega)
    have hsrc : ∀ j u, (I l)[j]? = some u → W.cell? ((⟨g0, o0, none⟩ : Addr).add j) = some u := by
      intro j u hj
      obtain ⟨hj1, hj2⟩ := List.getElem?_eq_some_iff.1 hj
      rw [I_len] at hj1
      obtain ⟨g', o', he, hg', hc⟩ := hat j hj1
      obtain ⟨rfl, rfl⟩ := addr_inj he
      rw [add_addr, hc, ← hj2, I_get hj1]
    have hrun := fun ty => run_copy_row (P := Try.prog) W 23 23 ty 3 g 0 l.length l.length ⟨g0, o0, none⟩ l.length cap cs 3 (I l) Try.underlying23 (by kernel_rfl) hg (by rw [I_len]; simp) hsrc (by rw [I_len, hcs]; omega) (I_one l)
    rw [I_len] at hrun
    refine ⟨_, hrun, ?_, ?_⟩
    · have hn := setRow_heap W g _ (cs.toList.take 0 ++ I l ++ cs.toList.drop (0 + l.length)).toArray _ _ hg
      have he : (cs.toList.take 0 ++ I l ++ cs.toList.drop (0 + l.length)) = I l := by
        rw [List.take_zero, List.nil_append, List.drop_of_length_le (by rw [Array.length_toList]; omega), List.append_nil]
      rw [he] at hn ⊢
      exact own_of_heap hn hB (by simp) (I_len l) (by unfold maxLen; omega)
    · exact ⟨rfl, rfl, rfl, by simp [World.setRow], fun k _ hk => setRow_other W g k _ (fun e => hk (by rw [e]))⟩

end Go.Proofs.Ytcfhfhpdnjaokaa

/- Walks: copies of graphs. -/
namespace Go.Proofs.Ytcfhfhpdnjaokaa
open Go.RowKit Pth

/-- Both cells of the argument are read as they were. -/
def Arg2 (w : World) (S : Nat) (x y : Value) : Prop := w.cell? ⟨S, 0, none⟩ = some x ∧ w.cell? ⟨S, 1, none⟩ = some y
theorem Arg2.alloc {w : World} {S : Nat} {x y : Value} (h : Arg2 w S x y) (o : Obj) : Arg2 (w.alloc o) S x y :=
  ⟨(World.cell?_alloc_lt _ _ _ (World.block_lt_of_cell? _ _ h.1)).trans h.1, (World.cell?_alloc_lt _ _ _ (World.block_lt_of_cell? _ _ h.2)).trans h.2⟩
theorem Arg2.below {w w' : World} {S : Nat} {x y : Value} (h : Arg2 w S x y) (hb : Below w.heap.size w w') : Arg2 w' S x y :=
  ⟨(hb.cell (World.block_lt_of_cell? _ _ h.1)).trans h.1, (hb.cell (World.block_lt_of_cell? _ _ h.2)).trans h.2⟩

theorem Arg2.set2 {w : World} {S b : Nat} {x y : Value} (h : Arg2 w S x y) (hne : b ≠ S) (u u' : Value) : Arg2 ((w.setCell ⟨b, 0, none⟩ u).setCell ⟨b, 1, none⟩ u') S x y := by
  have one : ∀ {W : World} {p q : Addr} {z v : Value}, W.cell? q = some z → p.block ≠ q.block → (W.setCell p v).cell? q = some z := by
    intro W p q z v hq hpq
    exact (World.cell?_setCell_far W p q v hpq).trans hq
  exact ⟨one (one h.1 hne) hne, one (one h.2 hne) hne⟩
theorem ka {w : World} {S : Nat} {x y : Value} (h : (w.cell? ⟨S, 0, none⟩ = some x ∧ w.cell? ⟨S, 1, none⟩ = some y)) (o : Obj) : ((w.alloc o).cell? ⟨S, 0, none⟩ = some x ∧ (w.alloc o).cell? ⟨S, 1, none⟩ = some y) := Arg2.alloc h o
theorem kst {w : World} {S b : Nat} {x y : Value} (h : (w.cell? ⟨S, 0, none⟩ = some x ∧ w.cell? ⟨S, 1, none⟩ = some y)) (hne : b ≠ S) (u u' : Value) : (((w.setCell ⟨b, 0, none⟩ u).setCell ⟨b, 1, none⟩ u').cell? ⟨S, 0, none⟩ = some x ∧ ((w.setCell ⟨b, 0, none⟩ u).setCell ⟨b, 1, none⟩ u').cell? ⟨S, 1, none⟩ = some y) := Arg2.set2 h hne u u'
theorem kb {w w' : World} {S : Nat} {x y : Value} (h : (w.cell? ⟨S, 0, none⟩ = some x ∧ w.cell? ⟨S, 1, none⟩ = some y)) (hb : Below w.heap.size w w') : (w'.cell? ⟨S, 0, none⟩ = some x ∧ w'.cell? ⟨S, 1, none⟩ = some y) := Arg2.below h hb
theorem undrew {B : Nat} {X w5 : World} (hb : Below B X.drew w5) : Below B X w5 := ⟨hb.os, hb.tape, hb.output, hb.size, hb.block⟩
/-- What a block of two cells lets one do, there and behind another new block. -/
theorem Blk2.all {w : World} {b t : Nat} {x y : Value} (h : Blk2 w b t x y) (o : Obj) : (w.cell? ⟨b, 0, none⟩ = some x ∧ w.cell? ⟨b, 1, none⟩ = some y ∧ w.frozen? ⟨b, 0, none⟩ = false ∧ w.frozen? ⟨b, 1, none⟩ = false ∧ b < w.heap.size) ∧ ((w.alloc o).cell? ⟨b, 0, none⟩ = some x ∧ (w.alloc o).cell? ⟨b, 1, none⟩ = some y ∧ (w.alloc o).frozen? ⟨b, 0, none⟩ = false ∧ (w.alloc o).frozen? ⟨b, 1, none⟩ = false) :=
  ⟨⟨h.cells.1, h.cells.2, h.soft 0, h.soft 1, lt_of_block h⟩, (h.old o).cells.1, (h.old o).cells.2, (h.old o).soft 0, (h.old o).soft 1⟩

theorem zk1 {P : Prop} {W w5 : World} {x y : Value} {t S : Nat} (hb5 : Below (W.alloc (.cells #[x, y] t)).drew.heap.size (W.alloc (.cells #[x, y] t)) w5) (hS : W.heap.size = S) (o' : Obj) (k : (w5.cell? ⟨S, 0, none⟩ = some x → w5.cell? ⟨S, 1, none⟩ = some y → w5.frozen? ⟨S, 0, none⟩ = false → w5.frozen? ⟨S, 1, none⟩ = false → S < w5.heap.size → (w5.alloc o').cell? ⟨S, 0, none⟩ = some x → (w5.alloc o').cell? ⟨S, 1, none⟩ = some y → (w5.alloc o').frozen? ⟨S, 0, none⟩ = false → (w5.alloc o').frozen? ⟨S, 1, none⟩ = false → (∀ v, (w5.setCell ⟨S, 0, none⟩ v).cell? ⟨S, 1, none⟩ = some y) → (∀ v, (w5.setCell ⟨S, 0, none⟩ v).frozen? ⟨S, 1, none⟩ = false) → (∀ v, ((w5.alloc o').setCell ⟨S, 0, none⟩ v).cell? ⟨S, 1, none⟩ = some y) → (∀ v, ((w5.alloc o').setCell ⟨S, 0, none⟩ v).frozen? ⟨S, 1, none⟩ = false) → P)) : P := by
  have z : Blk2 w5 S t x y := by subst hS; exact Blk2.new.below hb5 (by show _ < (W.alloc (.cells #[x, y] t)).heap.size; simp)
  obtain ⟨⟨y0, y1, y2, y3, y4⟩, y5, y6, y7, y8⟩ := z.all o'
  exact k y0 y1 y2 y3 y4 y5 y6 y7 y8 (fun v => (z.set0 v).cells.2) (fun v => (z.set0 v).soft 1) (fun v => ((z.old o').set0 v).cells.2) (fun v => ((z.old o').set0 v).soft 1)
theorem zk2 {P : Prop} {W w5 : World} {x y : Value} {t S : Nat} {o : Obj} (hb5 : Below ((W.alloc (.cells #[x, y] t)).alloc o).drew.heap.size ((W.alloc (.cells #[x, y] t)).alloc o) w5) (hS : W.heap.size = S) (o' : Obj) (k : (w5.cell? ⟨S, 0, none⟩ = some x → w5.cell? ⟨S, 1, none⟩ = some y → w5.frozen? ⟨S, 0, none⟩ = false → w5.frozen? ⟨S, 1, none⟩ = false → S < w5.heap.size → (w5.alloc o').cell? ⟨S, 0, none⟩ = some x → (w5.alloc o').cell? ⟨S, 1, none⟩ = some y → (w5.alloc o').frozen? ⟨S, 0, none⟩ = false → (w5.alloc o').frozen? ⟨S, 1, none⟩ = false → (∀ v, (w5.setCell ⟨S, 0, none⟩ v).cell? ⟨S, 1, none⟩ = some y) → (∀ v, (w5.setCell ⟨S, 0, none⟩ v).frozen? ⟨S, 1, none⟩ = false) → (∀ v, ((w5.alloc o').setCell ⟨S, 0, none⟩ v).cell? ⟨S, 1, none⟩ = some y) → (∀ v, ((w5.alloc o').setCell ⟨S, 0, none⟩ v).frozen? ⟨S, 1, none⟩ = false) → P)) : P := by
  have z : Blk2 w5 S t x y := by subst hS; exact (Blk2.new.old _).below hb5 (by show _ < ((W.alloc (.cells #[x, y] t)).alloc o).heap.size; simp; omega)
  obtain ⟨⟨y0, y1, y2, y3, y4⟩, y5, y6, y7, y8⟩ := z.all o'
  exact k y0 y1 y2 y3 y4 y5 y6 y7 y8 (fun v => (z.set0 v).cells.2) (fun v => (z.set0 v).soft 1) (fun v => ((z.old o').set0 v).cells.2) (fun v => ((z.old o').set0 v).soft 1)

/-- The blocks of a copy that is begun. -/
structure OwnAt (W0 : World) (csN : Array Value) (n : Nat) (l : List Int) (b g1 : Nat) (qv : Value) (wx : World) : Prop where
  hb : W0.heap.size ≤ b
  hg1 : W0.heap.size ≤ g1
  blk : Blk2 wx b 35 (.slice (some ⟨g1, 0, none⟩) n n) qv
  needs : wx.heap[g1]? = some (.cells csN 23 (0, 0))
  order : wx.ownsRow W0.heap.size 3 1 qv l.length (I l)
  below : Below W0.heap.size W0 wx
theorem ownAt1 {W0 w5 : World} {csN : Array Value} {n : Nat} {l : List Int} {qv : Value} (hu5 : Below (W0.alloc (.cells csN 23)).drew.heap.size (W0.alloc (.cells csN 23)) w5) (ho5 : w5.ownsRow (W0.alloc (.cells csN 23)).drew.heap.size 3 1 qv l.length (I l)) :
    OwnAt W0 csN n l w5.heap.size W0.heap.size qv (w5.alloc (.cells #[.slice (some ⟨W0.heap.size, 0, none⟩) n n, qv] 35)) := by
  have e : (W0.alloc (.cells csN 23)).drew.heap.size = W0.heap.size + 1 := by show (W0.alloc (.cells csN 23)).heap.size = _; simp
  rw [e] at hu5 ho5
  have s5 := hu5.size
  have s5' : W0.heap.size + 1 ≤ w5.heap.size := by simpa using s5
  have k1 : w5.heap[W0.heap.size]? = some (.cells csN 23 (0, 0)) := (hu5.block _ (by omega)).trans (heap_alloc_new W0 _)
  exact ⟨by omega, Nat.le_refl _, Blk2.new, (Below.heap_alloc w5 _ _ (by omega)).trans k1, own_base (ho5.alloc _) (by omega), ((((Below.refl W0.heap.size W0).alloc (Nat.le_refl _) _).trans (hu5.mono (by omega)))).alloc (by omega) _⟩
theorem ownAt2 {W0 w5 : World} {csN : Array Value} {n : Nat} {l : List Int} {qv : Value} (hu5 : Below ((W0.alloc (.cells csN 23)).alloc (.cells #[.slice none 0 0, .slice none 0 0] 35)).drew.heap.size ((W0.alloc (.cells csN 23)).alloc (.cells #[.slice none 0 0, .slice none 0 0] 35)) w5) (ho5 : w5.ownsRow ((W0.alloc (.cells csN 23)).alloc (.cells #[.slice none 0 0, .slice none 0 0] 35)).drew.heap.size 3 1 qv l.length (I l)) :
    OwnAt W0 csN n l (W0.heap.size + 1) W0.heap.size qv ((w5.setCell ⟨W0.heap.size + 1, 0, none⟩ (.slice (some ⟨W0.heap.size, 0, none⟩) n n)).setCell ⟨W0.heap.size + 1, 1, none⟩ qv) := by
  have e1 : (W0.alloc (.cells csN 23)).heap.size = W0.heap.size + 1 := by simp
  have e : ((W0.alloc (.cells csN 23)).alloc (.cells #[.slice none 0 0, .slice none 0 0] 35)).drew.heap.size = W0.heap.size + 2 := by show ((W0.alloc (.cells csN 23)).alloc (.cells #[.slice none 0 0, .slice none 0 0] 35)).heap.size = _; simp
  rw [e] at hu5 ho5
  have z := Blk2.new (w := W0.alloc (.cells csN 23)) (t := 35) (x := .slice none 0 0) (y := .slice none 0 0)
  rw [e1] at z
  have z5 := z.below hu5 (by omega)
  have k1 : w5.heap[W0.heap.size]? = some (.cells csN 23 (0, 0)) := (hu5.block _ (by omega)).trans ((Below.heap_alloc _ _ _ (by rw [e1]; omega)).trans (heap_alloc_new W0 _))
  refine ⟨by omega, Nat.le_refl _, (z5.set0 _).set1 _, ?_, own_base (own_setI (own_setI ho5 (p := ⟨W0.heap.size + 1, 0, none⟩) (by show W0.heap.size + 1 < _; omega) _) (p := ⟨W0.heap.size + 1, 1, none⟩) (by show W0.heap.size + 1 < _; omega) _) (by omega), ?_⟩
  · rw [Below.heap_setCell _ _ _ _ (by show W0.heap.size ≠ W0.heap.size + 1; omega), Below.heap_setCell _ _ _ _ (by show W0.heap.size ≠ W0.heap.size + 1; omega)]; exact k1
  · exact (((((Below.refl W0.heap.size W0).alloc (Nat.le_refl _) _).alloc (by omega) _).trans (hu5.mono (by omega))).setCell (p := ⟨W0.heap.size + 1, 0, none⟩) (by show W0.heap.size ≤ W0.heap.size + 1; omega) _).setCell (p := ⟨W0.heap.size + 1, 1, none⟩) (by show W0.heap.size ≤ W0.heap.size + 1; omega) _
theorem ownAt3 {W0 w5 : World} {csN : Array Value} {n : Nat} {l : List Int} {qv : Value} (hu5 : Below W0.drew.heap.size W0 w5) (ho5 : w5.ownsRow W0.drew.heap.size 3 1 qv l.length (I l)) :
    OwnAt W0 csN n l (w5.heap.size + 1) w5.heap.size qv ((w5.alloc (.cells csN 23)).alloc (.cells #[.slice (some ⟨w5.heap.size, 0, none⟩) n n, qv] 35)) := by
  have e : W0.drew.heap.size = W0.heap.size := rfl
  rw [e] at hu5 ho5
  have e1 : (w5.alloc (.cells csN 23)).heap.size = w5.heap.size + 1 := by simp
  have s5 := hu5.size
  have z := Blk2.new (w := w5.alloc (.cells csN 23)) (t := 35) (x := .slice (some ⟨w5.heap.size, 0, none⟩) n n) (y := qv)
  rw [e1] at z
  exact ⟨by omega, s5, z, (Below.heap_alloc _ _ _ (by rw [e1]; omega)).trans (heap_alloc_new w5 _), (ho5.alloc _).alloc _, (hu5.alloc s5 _).alloc (by rw [e1]; omega) _⟩
theorem ownAt4 {W0 w5 : World} {csN : Array Value} {n : Nat} {l : List Int} {qv : Value} (hu5 : Below W0.drew.heap.size W0 w5) (ho5 : w5.ownsRow W0.drew.heap.size 3 1 qv l.length (I l)) :
    OwnAt W0 csN n l w5.heap.size (w5.heap.size + 1) qv ((w5.alloc (.cells #[.slice (some ⟨w5.heap.size + 1, 0, none⟩) n n, qv] 35)).alloc (.cells csN 23)) := by
  have e : W0.drew.heap.size = W0.heap.size := rfl
  rw [e] at hu5 ho5
  have e1 : (w5.alloc (.cells #[.slice (some ⟨w5.heap.size + 1, 0, none⟩) n n, qv] 35)).heap.size = w5.heap.size + 1 := by simp
  have s5 := hu5.size
  have k1 := heap_alloc_new (w5.alloc (.cells #[.slice (some ⟨w5.heap.size + 1, 0, none⟩) n n, qv] 35)) (.cells csN 23)
  rw [e1] at k1
  exact ⟨s5, by omega, Blk2.new.old _, k1, (ho5.alloc _).alloc _, (hu5.alloc s5 _).alloc (by rw [e1]; omega) _⟩
theorem ownAt5 {W0 w5 : World} {csN : Array Value} {n : Nat} {l : List Int} {qv : Value} (hu5 : Below ((W0.alloc (.cells #[.slice none 0 0, .slice none 0 0] 35)).alloc (.cells csN 23)).drew.heap.size ((W0.alloc (.cells #[.slice none 0 0, .slice none 0 0] 35)).alloc (.cells csN 23)) w5) (ho5 : w5.ownsRow ((W0.alloc (.cells #[.slice none 0 0, .slice none 0 0] 35)).alloc (.cells csN 23)).drew.heap.size 3 1 qv l.length (I l)) :
    OwnAt W0 csN n l W0.heap.size (W0.heap.size + 1) qv ((w5.setCell ⟨W0.heap.size, 0, none⟩ (.slice (some ⟨W0.heap.size + 1, 0, none⟩) n n)).setCell ⟨W0.heap.size, 1, none⟩ qv) := by
  have e1 : (W0.alloc (.cells #[.slice none 0 0, .slice none 0 0] 35)).heap.size = W0.heap.size + 1 := by simp
  have e : ((W0.alloc (.cells #[.slice none 0 0, .slice none 0 0] 35)).alloc (.cells csN 23)).drew.heap.size = W0.heap.size + 2 := by show ((W0.alloc (.cells #[.slice none 0 0, .slice none 0 0] 35)).alloc (.cells csN 23)).heap.size = _; simp
  rw [e] at hu5 ho5
  have z5 := ((Blk2.new (w := W0) (t := 35) (x := .slice none 0 0) (y := .slice none 0 0)).old (.cells csN 23)).below hu5 (by omega)
  have k0 := heap_alloc_new (W0.alloc (.cells #[.slice none 0 0, .slice none 0 0] 35)) (.cells csN 23)
  rw [e1] at k0
  have k1 := (hu5.block (W0.heap.size + 1) (by omega)).trans k0
  refine ⟨Nat.le_refl _, by omega, (z5.set0 _).set1 _, ?_, own_base (own_setI (own_setI ho5 (p := ⟨W0.heap.size, 0, none⟩) (by show W0.heap.size < _; omega) _) (p := ⟨W0.heap.size, 1, none⟩) (by show W0.heap.size < _; omega) _) (by omega), ?_⟩
  · rw [Below.heap_setCell _ _ _ _ (by show W0.heap.size + 1 ≠ W0.heap.size; omega), Below.heap_setCell _ _ _ _ (by show W0.heap.size + 1 ≠ W0.heap.size; omega)]; exact k1
  · exact (((((Below.refl W0.heap.size W0).alloc (Nat.le_refl _) _).alloc (by omega) _).trans (hu5.mono (by omega))).setCell (p := ⟨W0.heap.size, 0, none⟩) (Nat.le_refl _) _).setCell (p := ⟨W0.heap.size, 1, none⟩) (Nat.le_refl _) _
theorem ownAt6 {W0 w5 : World} {csN : Array Value} {n : Nat} {l : List Int} {qv : Value} (hu5 : Below (W0.alloc (.cells #[.slice none 0 0, .slice none 0 0] 35)).drew.heap.size (W0.alloc (.cells #[.slice none 0 0, .slice none 0 0] 35)) w5) (ho5 : w5.ownsRow (W0.alloc (.cells #[.slice none 0 0, .slice none 0 0] 35)).drew.heap.size 3 1 qv l.length (I l)) :
    OwnAt W0 csN n l W0.heap.size w5.heap.size qv (((w5.setCell ⟨W0.heap.size, 0, none⟩ (.slice (some ⟨w5.heap.size, 0, none⟩) n n)).setCell ⟨W0.heap.size, 1, none⟩ qv).alloc (.cells csN 23)) := by
  have e : (W0.alloc (.cells #[.slice none 0 0, .slice none 0 0] 35)).drew.heap.size = W0.heap.size + 1 := by show (W0.alloc (.cells #[.slice none 0 0, .slice none 0 0] 35)).heap.size = _; simp
  rw [e] at hu5 ho5
  have s5' : W0.heap.size + 1 ≤ w5.heap.size := by have := hu5.size; simpa using this
  have z5 := (Blk2.new (w := W0) (t := 35) (x := .slice none 0 0) (y := .slice none 0 0)).below hu5 (by omega)
  have k1 := heap_alloc_new ((w5.setCell ⟨W0.heap.size, 0, none⟩ (.slice (some ⟨w5.heap.size, 0, none⟩) n n)).setCell ⟨W0.heap.size, 1, none⟩ qv) (.cells csN 23)
  have e3 : ((w5.setCell ⟨W0.heap.size, 0, none⟩ (.slice (some ⟨w5.heap.size, 0, none⟩) n n)).setCell ⟨W0.heap.size, 1, none⟩ qv).heap.size = w5.heap.size := by simp
  rw [e3] at k1
  refine ⟨Nat.le_refl _, by omega, ((z5.set0 _).set1 _).old _, k1, own_base ((own_setI (own_setI ho5 (p := ⟨W0.heap.size, 0, none⟩) (by show W0.heap.size < _; omega) _) (p := ⟨W0.heap.size, 1, none⟩) (by show W0.heap.size < _; omega) _).alloc _) (by omega), ?_⟩
  exact ((((((Below.refl W0.heap.size W0).alloc (Nat.le_refl _) _).trans (hu5.mono (by omega))).setCell (p := ⟨W0.heap.size, 0, none⟩) (Nat.le_refl _) _).setCell (p := ⟨W0.heap.size, 1, none⟩) (Nat.le_refl _) _)).alloc (by rw [e3]; omega) _

end Go.Proofs.Ytcfhfhpdnjaokaa

/- Walks: the reference's copies of graphs. -/
namespace Go.Proofs.Ytcfhfhpdnjaokaa
open Go.RowKit Pth

/-- An append whose run is known. -/
theorem wpList_runApp {t : TypeId} {ops : Array Oper} {rest : List Oper} {o : Oper} {a : Act} {Q : Exit → Act → World → Prop} {w w' : World} {v u r : Value} (hgd : o.guard = none) (s x : Operand)
    (ho : o.op = .call { callee := .builtin .append, args := #[s, x], argTypes := #[t, t] }) (hs : a.eval s = v) (hx : a.eval x = u) (hrun : (Builtin.append_ #[t, t] o.type #[v, u]).run Try.prog w = .ok r w')
    (h : wpList Try.prog ops Q rest (a.put o.dst r) w') : wpList Try.prog ops Q (o :: rest) a w := by
  refine wpList_plain hgd fun K hK => ?_
  unfold Oper.wp execOp
  simp only [ho, resolve, invoke, builtin, Sem.run_bind, Sem.run_pure, Result.andThen_ok, List.map_toArray, List.map_cons, List.map_nil, hs, hx, hrun]
  exact hK _ _ h
theorem step_runApp {t : TypeId} {ops : Array Oper} {o : Oper} {a : Act} {K : Act → World → Prop} {Q : Exit → Act → World → Prop} {F : Prop} {w w' : World} {v u r : Value} (hgd : o.guard = none) (s x : Operand)
    (ho : o.op = .call { callee := .builtin .append, args := #[s, x], argTypes := #[t, t] }) (hs : a.eval s = v) (hx : a.eval x = u) (hrun : (Builtin.append_ #[t, t] o.type #[v, u]).run Try.prog w = .ok r w')
    (h : K (a.put o.dst r) w') : if Region.wanted o (yielded ops a.tmps) = true then Oper.wp Try.prog o a w K Q else F := by
  have hw : Region.wanted o (yielded ops a.tmps) = true := by simp [Region.wanted, hgd]
  rw [if_pos hw]
  unfold Oper.wp execOp
  simp only [ho, resolve, invoke, builtin, Sem.run_bind, Sem.run_pure, Result.andThen_ok, List.map_toArray, List.map_cons, List.map_nil, hs, hx, hrun]
  exact h
/-- A list put behind an empty literal. -/
theorem lit_row (x : List Int) (a : Option Addr) (c : Nat) (w W : World) (hW : W = w.alloc (.cells #[] 3)) (hrow : RowV w (.slice a x.length c) (I x)) (hx : x.length ≤ 1000) (ty : TypeId) :
    ∃ qa qc w1, (Builtin.append_ #[23, 23] ty #[.slice (some ⟨w.heap.size, 0, none⟩) 0 0, .slice a x.length c]).run Try.prog W = .ok (.slice qa x.length qc) w1 ∧ w1.ownsRow w.heap.size 3 1 (.slice qa x.length qc) x.length (I x) ∧ Below w.heap.size w w1 := by
  subst hW
  have hown : (w.alloc (.cells #[] 3)).ownsRow w.heap.size 3 1 (.slice (some ⟨w.heap.size, 0, none⟩) 0 0) 0 [] := World.ownsRow_lit w #[] 0 (Nat.le_refl _) (by unfold maxLen; omega) rfl
  have hr := hrow.alloc (.cells #[] 3)
  have hle : (I x).length = x.length := I_len x
  rw [← hle] at hr
  obtain ⟨v1, w1, r1, o1, g1⟩ := run_app_row elemI (w.alloc (.cells #[] 3)) w.heap.size ty _ [] (I x) a c hown hr (I_one x) (by simp [hle]; omega) (by simp)
  rw [List.nil_append] at o1
  rw [hle] at o1 r1
  obtain ⟨qa, qc, rfl⟩ := own_slice o1
  exact ⟨qa, qc, w1, r1, o1, ((Below.refl _ w).alloc (Nat.le_refl _) _).trans (only_below g1 (Nat.le_refl _) (by simp))⟩
/-- A list put as one more behind a list of lists. -/
theorem more_lists (sl : List Value) (nv v1 : Value) (B : Nat) (w1 : World) (hown : w1.ownsRow B 23 1 nv sl.length sl) (hv : v1.oneCell' = true) (hl : sl.length ≤ 1000) (hB : B ≤ w1.heap.size) (ty : TypeId) :
    ∃ v2 w2, (Builtin.append_ #[22, 22] ty #[nv, .slice (some ⟨w1.heap.size, 0, none⟩) 1 1]).run Try.prog (w1.alloc (.cells #[v1] 23)) = .ok v2 w2 ∧ w2.ownsRow B 23 1 v2 (sl ++ [v1]).length (sl ++ [v1]) ∧ w1.grownBy w2 nv.ownBlock := by
  have hr : RowV (w1.alloc (.cells #[v1] 23)) (.slice (some ⟨w1.heap.size, 0, none⟩) 1 1) [v1] :=
    ⟨_, _, rfl, Nat.le_refl _, by unfold maxLen; omega, fun k hk => ⟨w1.heap.size, 0, rfl, by simp, by
      have : k = 0 := by simp at hk; omega
      subst this
      have := one_new w1 v1 23 0 v1 rfl
      rw [add_addr] at this
      exact this⟩⟩
  obtain ⟨v2, w2, r2, o2, g2⟩ := run_app_row elemN (w1.alloc (.cells #[v1] 23)) B ty nv sl [v1] _ _ (hown.alloc _) hr (by intro u hu; simp at hu; subst hu; exact hv) (by simp; omega) (by simp; omega)
  exact ⟨v2, w2, r2, o2, ⟨g2.os, g2.tape, g2.output, Nat.le_trans (by simp) g2.size, fun k hk hne => (g2.block k (by simp; omega) hne).trans (Below.heap_alloc _ _ _ hk)⟩⟩

end Go.Proofs.Ytcfhfhpdnjaokaa

/- Walks: how far tasks are, by a queue. -/
namespace Go.Proofs.Ytcfhfhpdnjaokaa
open Go.RowKit Pth

theorem I_set (l : List Int) (k : Nat) (x : Int) : (I l).set k (.int .i64 x) = I (l.set k x) := by simp [I, List.map_set]
theorem good_in {ls : List (List Int)} {l : List Int} (h : GoodG ls l) : ∀ k (hk : k < ls.length), ∀ x ∈ ls[k], 0 ≤ x ∧ x < (ls.length : Int) := by
  intro k hk x hx
  have := (h.each k hk).1.2 x hx
  omega
theorem at_get {out : List Int} {k : Nat} (hk : k < out.length) : at' out (k : Int) = out[k] := by
  unfold at'
  rw [show ((k : Int)).toNat = k by omega, List.getD_eq_getElem?_getD, List.getElem?_eq_getElem hk]; rfl
theorem I_at {l : List Int} {k : Nat} (hk : k < l.length) : (I l)[k]? = some (.int .i64 l[k]) := by rw [List.getElem?_eq_getElem (by rw [I_len]; exact hk), I_get hk]
theorem far_len (ls : List (List Int)) (t : Int) : ((upto ls.length).map (farI ls t)).length = ls.length := by rw [List.length_map, upto_len]
theorem own_belowQ {w w' : World} {B e n : Nat} {v : Value} {xs : List Value} (h : w.ownsRow B e 1 v n xs) {C : Nat} (hb : Below C w w') (hC : ∀ k, v.ownBlock = some k → k < C) : w'.ownsRow B e 1 v n xs := by
  refine ⟨h.1, ?_⟩
  rcases h.2 with h0 | ⟨g, cap, cur, hv, hg, hh, r⟩
  · exact .inl h0
  · exact .inr ⟨g, cap, cur, hv, hg, (hb.block g (hC g (by rw [hv]; rfl))).trans hh, r⟩

end Go.Proofs.Ytcfhfhpdnjaokaa
