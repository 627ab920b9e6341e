/- Texts of one claim, joined in their order. -/
import Derived.Test.YtcfhfhpdnjaokaaGreatDoorM4
import Derived.Test.YtcfhfhpdnjaokaaGreatDoorM5
import Derived.Test.YtcfhfhpdnjaokaaGreatDoorM6
import Derived.Test.YtcfhfhpdnjaokaaGreatDoorM2

/- Walks: whether a plan is good, of the reference and of the program. -/
namespace Go.Proofs.YtcfhfhpdnjaokaaGreatDoor
open Go.RowKit Pth

/-- One task of a plan is as it should be. -/
def planP (ls : List (List Int)) (bs : List Bool) (rs : List (List OpT)) (k : Nat) : Bool :=
  goodR (rs.getD k []) ((ls.getD k []).length : Int) && !(bs.getD k false && decide (0 < (rs.getD k []).length + (ls.getD k []).length))
noncomputable def planA (ls : List (List Int)) (l : List Int) (bs : List Bool) (rs : List (List OpT)) : Bool :=
  goodG ls l && (decide (bs.length = ls.length) && (decide (rs.length = ls.length) && (List.range ls.length).all (planP ls bs rs)))
theorem getD_at {α : Type} {l : List α} {k : Nat} (d : α) (h : k < l.length) : l.getD k d = l[k] := by
  rw [List.getD_eq_getElem?_getD, List.getElem?_eq_getElem h]; rfl
theorem planP_at {ls : List (List Int)} {bs : List Bool} {rs : List (List OpT)} {k : Nat} (h1 : k < ls.length) (h2 : k < bs.length) (h3 : k < rs.length) :
    planP ls bs rs k = (goodR rs[k] (ls[k].length : Int) && !(bs[k] && decide (0 < rs[k].length + ls[k].length))) := by
  unfold planP; rw [getD_at _ h1, getD_at _ h2, getD_at _ h3]
theorem plan_noG {ls : List (List Int)} {l : List Int} {bs : List Bool} {rs : List (List OpT)} (h : goodG ls l = false) : planA ls l bs rs = false := by unfold planA; rw [h]; rfl
theorem plan_noB {ls : List (List Int)} {l : List Int} {bs : List Bool} {rs : List (List OpT)} (h : bs.length ≠ ls.length) : planA ls l bs rs = false := by
  unfold planA; rw [decide_eq_false h]; simp
theorem plan_noR {ls : List (List Int)} {l : List Int} {bs : List Bool} {rs : List (List OpT)} (h : rs.length ≠ ls.length) : planA ls l bs rs = false := by
  unfold planA; rw [decide_eq_false h]; simp
theorem plan_bad {ls : List (List Int)} {l : List Int} {bs : List Bool} {rs : List (List OpT)} {k : Nat} (hk : k < ls.length) (h : planP ls bs rs k = false) : planA ls l bs rs = false := by
  have : (List.range ls.length).all (planP ls bs rs) = false := List.all_eq_false.2 ⟨k, by simpa using hk, by simp [h]⟩
  unfold planA; rw [this]; simp
theorem plan_end {ls : List (List Int)} {l : List Int} {bs : List Bool} {rs : List (List OpT)} {k : Nat} (hk : ls.length ≤ k) (hg : goodG ls l = true) (h1 : bs.length = ls.length) (h2 : rs.length = ls.length) (h : ∀ j, j < k → planP ls bs rs j = true) : planA ls l bs rs = true := by
  have : (List.range ls.length).all (planP ls bs rs) = true := List.all_eq_true.2 (fun j hj => h j (by simp at hj; omega))
  unfold planA; rw [hg, decide_eq_true h1, decide_eq_true h2, this]; rfl
theorem plan_next {ls : List (List Int)} {bs : List Bool} {rs : List (List OpT)} {k : Nat} (h : ∀ j, j < k → planP ls bs rs j = true) (hp : planP ls bs rs k = true) : ∀ j, j < k + 1 → planP ls bs rs j = true := by
  intro j hj
  by_cases e : j = k
  · rw [e]; exact hp
  · exact h j (by omega)
theorem plan_parts {ls : List (List Int)} {l : List Int} {bs : List Bool} {rs : List (List OpT)} (h : planA ls l bs rs = true) : GoodG ls l ∧ bs.length = ls.length ∧ rs.length = ls.length ∧ ∀ k, k < ls.length → planP ls bs rs k = true := by
  unfold planA at h
  simp only [Bool.and_eq_true, decide_eq_true_eq, List.all_eq_true, List.mem_range] at h
  exact ⟨goodG_iff.1 h.1, h.2.1, h.2.2.1, h.2.2.2⟩

theorem implGood_bR {r : List OpT} {ins : Int} {b : Bool} (h : goodR r ins = b) (v : Value) (w : World) (hrow : RowO w v r) : Calls Tryz.prog 76 #[v, .int .i64 ins] w (BoolPost b w) := by
  have := implGoodR_any r ins v w hrow; rwa [h] at this

set_option maxRecDepth 20000 in
set_option maxHeartbeats 8000000 in
theorem specPlan_any (ls : List (List Int)) (l : List Int) (bs : List Bool) (rs : List (List OpT)) (v : Value) (w : World) (hp : PlanV w v ls l bs rs) (hx : ∀ l ∈ rs, ∀ f ∈ l, f.2.2.length ≤ maxLen) :
    Calls Tryz.prog 19 #[v] w (BoolPost (planA ls l bs rs) w) := by
  obtain ⟨nv, ov, sv, rv, rfl, h1, h2, h3, h4⟩ := hp
  have H1 := Lib.hid h1
  have H2 := Lib.hid h2
  obtain ⟨as0, cs, rfl, hs1, hs2, hats⟩ := h3.boolsW
  obtain ⟨an, cn, rfl, hn1, hn2, hatn⟩ := h1.lists
  obtain ⟨ao, co, rfl, ho1, ho2, _⟩ := h2.ints
  obtain ⟨ar, cr, rfl, hr1, hr2, hatr⟩ := h4.lists
  clear h1 h2 h3 h4
  unfold maxLen at hs2 hn2 ho2 hr2
  obtain ⟨wa, hwa⟩ : ∃ wa, wa = w.alloc (.cells #[.slice an ls.length cn, .slice ao l.length co, .slice as0 bs.length cs, .slice ar rs.length cr] 30) := ⟨_, rfl⟩
  have hsz : w.heap.size < wa.heap.size := by rw [hwa]; simp
  have P0 : Hid (Blk4 wa w.heap.size 30 (.slice an ls.length cn) (.slice ao l.length co) (.slice as0 bs.length cs) (.slice ar rs.length cr)) := by rw [hwa]; exact Blk4.new
  have HA : Hid (Below w.heap.size w wa) := by rw [hwa]; exact (Below.refl w.heap.size w).alloc (Nat.le_refl _) _
  have HC := Lib.hid (specGood_any ls l (.agg #[.slice an ls.length cn, .slice ao l.length co]) wa ⟨_, _, rfl, H1.out.below HA.out, H2.out.below HA.out⟩)
  have HWA := Lib.hid hwa
  have HATS := Lib.hid hats
  have HATN := Lib.hid hatn
  have HATR := Lib.hid hatr
  have HX := Lib.hid hx
  obtain ⟨c0, c1, c2, c3⟩ := P0.out.cells
  clear hwa hats hatn hatr hx
  rcases hg : goodG ls l with _ | _
  · have HT : Hid (planA ls l bs rs = false) := plan_noG hg
    rw [hg] at HC
    clear hg
    go_enter Tryz.func19, Tryz.ntmps19
    go_wp2_with fail
    rw [← HWA.out]
    refine HC.out.mono ?_
    rintro e w1 ⟨rfl, hb1⟩
    have HB1 := Lib.hid (bth HA.out hb1 (Nat.le_refl _))
    clear hb1 c0 c1 c2 c3
    go_wp2_with fail
    go_ret
    exact ⟨ret_bool HT.out.symm, HB1.out⟩
  rw [hg] at HC
  by_cases hb : bs.length = ls.length
  · have eb : ((bs.length : Int) != (ls.length : Int)) = false := by simp [hb]
    by_cases hr : rs.length = ls.length
    · have er : ((rs.length : Int) != (ls.length : Int)) = false := by simp [hr]
      have HGG := Lib.hid hg
      have HBL := Lib.hid hb
      have HRL := Lib.hid hr
      have hgg := goodG_iff.1 hg
      have HLL : Hid (∀ k (hk : k < ls.length), ls[k].length ≤ 10) := fun k hk => by
        have hw := (hgg.each k hk).1
        have := rise_len hw.1 hw.2 (by have := hgg.low; omega)
        have := hgg.high
        omega
      have hhigh := hgg.high
      clear hg hgg hb hr
      go_enter Tryz.func19, Tryz.ntmps19
      go_wp2_with fail
      rw [← HWA.out]
      refine HC.out.mono ?_
      rintro e w1 ⟨rfl, hb1⟩
      have HB1 := Lib.hid hb1
      clear hb1 c0 c1 c2 c3 HC
      obtain ⟨c0, c1, c2, c3⟩ := (P0.out.below HB1.out hsz).cells
      go_wp2_with fail
      clear c0 c1 c2 c3
      go_loopw [31] (fun i wr => ∃ k : Nat, k ≤ ls.length ∧ i = .int .i64 k ∧ Hid (Below wa.heap.size wa wr) ∧ Hid (∀ j, j < k → planP ls bs rs j = true)) (fun i _ => ls.length - (intOf i).toNat)
      case atStart => exact ⟨0, Nat.zero_le _, rfl, HB1.out, fun j hj => by omega⟩
      case round =>
        clear HB1
        obtain ⟨k, hk, rfl, HB, HO⟩ := hrel
        have HBW := Lib.hid (bth HA.out HB.out (Nat.le_refl _))
        by_cases hlt : k < ls.length
        · have hkb : k < bs.length := by have := HBL.out; omega
          have hkr : k < rs.length := by have := HRL.out; omega
          obtain ⟨gn, on, an2, cn2, rfl, hgn, hcn, hrn⟩ := HATN.out k hlt
          obtain ⟨gb, ob, rfl, hgb, hcb⟩ := HATS.out k hkb
          obtain ⟨gr, or', ar2, cr2, rfl, hgr, hcr, hrr⟩ := HATR.out k hkr
          obtain ⟨_, _, hev, hcl, hcm, _⟩ := hrr.ops
          injection hev with hea _ hec
          subst hea hec
          obtain ⟨nr, hnr⟩ : ∃ n, rs[k].length = n := ⟨_, rfl⟩
          obtain ⟨nl, hnl⟩ : ∃ n, ls[k].length = n := ⟨_, rfl⟩
          obtain ⟨s, hs⟩ : ∃ s, bs[k] = s := ⟨_, rfl⟩
          have hrl : nr ≤ maxLen := by omega
          unfold maxLen at hrl
          have hl10 : nl ≤ 10 := by have := HLL.out k hlt; omega
          rw [hnl] at hcn
          rw [hnr] at hcr hrr
          rw [hs] at hcb
          have HNC : Hid (∀ W, Below w.heap.size w W → W.cell? ⟨gn, on + k, none⟩ = some (.slice an2 nl cn2)) := fun W h => (h.cell (p := ⟨gn, on + k, none⟩) hgn).trans hcn
          have HBC : Hid (∀ W, Below w.heap.size w W → W.cell? ⟨gb, ob + k, none⟩ = some (.bool s)) := fun W h => (h.cell (p := ⟨gb, ob + k, none⟩) hgb).trans hcb
          have HRC : Hid (∀ W, Below w.heap.size w W → W.cell? ⟨gr, or' + k, none⟩ = some (.slice ar2 nr cr2)) := fun W h => (h.cell (p := ⟨gr, or' + k, none⟩) hgr).trans hcr
          obtain ⟨b1, hb1⟩ : ∃ b, goodR rs[k] (nl : Int) = b := ⟨_, rfl⟩
          have HCR : Hid (∀ W, Below w.heap.size w W → Calls Tryz.prog 78 #[.slice ar2 nr cr2, .int .i64 (nl : Int)] W (BoolPost b1 W)) := fun W h => specGood_b hb1 _ W (hrr.below h) (fun f hf => HX.out _ (List.getElem_mem hkr) f hf)
          have H8 : Hid (b1 = true → nr ≤ 8) := fun h => by rw [h] at hb1; have := (goodR_iff.1 hb1).2.2.1; omega
          have hPP : planP ls bs rs k = (b1 && !(s && decide (0 < nr + nl))) := by rw [planP_at hlt hkb hkr, hnl, hb1, hnr, hs]
          have hs1 := HNC.out wr HBW.out
          have hs2 := HBC.out wr HBW.out
          have hs3 := HRC.out wr HBW.out
          have hki : (k : Int) < (bs.length : Int) := by omega
          have hkj : (k : Int) < (rs.length : Int) := by omega
          obtain ⟨c0, c1, c2, c3⟩ := (P0.out.below HB.out hsz).cells
          clear hcn hcb hcr hrn hrr hb1 HATN HATS HATR HX H1 H2 hnr hnl hs hcl hcm
          by_cases hz : 0 < nr + nl
          · rw [decide_eq_true hz] at hPP
            have HS : Hid (if b1 && !s then (∀ j, j < k + 1 → planP ls bs rs j = true) else planA ls l bs rs = false) := by
              unfold Hid
              split
              · rename_i h; exact plan_next HO.out (by rw [hPP, Bool.and_true]; exact h)
              · rename_i h; exact plan_bad hlt (by rw [hPP, Bool.and_true]; simpa using h)
            clear hPP HO
            rcases b1 with _ | _
            · go_wp2_with fail
              refine (HCR.out wr HBW.out).mono ?_
              rintro e w2 ⟨rfl, hb2⟩
              have HB2 := Lib.hid (bth HB.out hb2 (Nat.le_refl _))
              have HBW2 := Lib.hid (bth HA.out HB2.out (Nat.le_refl _))
              clear hb2 c0 c1 c2 c3 hs1 hs2 hs3
              obtain ⟨c0, c1, c2, c3⟩ := (P0.out.below HB2.out hsz).cells
              have hs1 := HNC.out w2 HBW2.out
              have hs2 := HBC.out w2 HBW2.out
              have hs3 := HRC.out w2 HBW2.out
              go_wp2_with fail
              go_ret
              exact ⟨ret_bool (by have := HS.out; simp at this; simp [this]), HBW2.out⟩
            · go_wp2_with fail
              refine (HCR.out wr HBW.out).mono ?_
              rintro e w2 ⟨rfl, hb2⟩
              have HB2 := Lib.hid (bth HB.out hb2 (Nat.le_refl _))
              have HBW2 := Lib.hid (bth HA.out HB2.out (Nat.le_refl _))
              clear hb2 c0 c1 c2 c3 hs1 hs2 hs3
              obtain ⟨c0, c1, c2, c3⟩ := (P0.out.below HB2.out hsz).cells
              have hs1 := HNC.out w2 HBW2.out
              have hs2 := HBC.out w2 HBW2.out
              have hs3 := HRC.out w2 HBW2.out
              rcases s with _ | _
              · go_wp2_with fail
                all_goals
                  go_roundw
                  case rel => exact ⟨k + 1, by omega, by go_num, HB2, by have := HS.out; simpa [Hid] using this⟩
                  case measure => simp [intOf]; omega
              · have hd : (0 : Int) < (nr : Int) + (nl : Int) := by omega
                have h8 : nr ≤ 8 := by simpa using H8.out
                have hwr : IntKind.i64.wrap ((nr : Int) + (nl : Int)) = (nr : Int) + (nl : Int) := by rw [IntKind.wrap_i64]; omega
                go_wp2_with fail
                go_ret
                exact ⟨ret_bool (by have := HS.out; simp at this; simp [this]), HBW2.out⟩
          · rw [decide_eq_false hz] at hPP
            have HS : Hid (if b1 then (∀ j, j < k + 1 → planP ls bs rs j = true) else planA ls l bs rs = false) := by
              unfold Hid
              split
              · rename_i h; exact plan_next HO.out (by rw [hPP, Bool.and_false, h]; rfl)
              · rename_i h; exact plan_bad hlt (by rw [hPP, Bool.and_false]; simpa using h)
            clear hPP HO
            obtain rfl : nr = 0 := by omega
            obtain rfl : nl = 0 := by omega
            clear hz
            rcases b1 with _ | _
            · go_wp2_with fail
              refine (HCR.out wr HBW.out).mono ?_
              rintro e w2 ⟨rfl, hb2⟩
              have HB2 := Lib.hid (bth HB.out hb2 (Nat.le_refl _))
              have HBW2 := Lib.hid (bth HA.out HB2.out (Nat.le_refl _))
              clear hb2 c0 c1 c2 c3 hs1 hs2 hs3
              obtain ⟨c0, c1, c2, c3⟩ := (P0.out.below HB2.out hsz).cells
              have hs1 := HNC.out w2 HBW2.out
              have hs2 := HBC.out w2 HBW2.out
              have hs3 := HRC.out w2 HBW2.out
              go_wp2_with fail
              go_ret
              exact ⟨ret_bool (by have := HS.out; simp at this; simp [this]), HBW2.out⟩
            · go_wp2_with fail
              refine (HCR.out wr HBW.out).mono ?_
              rintro e w2 ⟨rfl, hb2⟩
              have HB2 := Lib.hid (bth HB.out hb2 (Nat.le_refl _))
              have HBW2 := Lib.hid (bth HA.out HB2.out (Nat.le_refl _))
              clear hb2 c0 c1 c2 c3 hs1 hs2 hs3
              obtain ⟨c0, c1, c2, c3⟩ := (P0.out.below HB2.out hsz).cells
              have hs1 := HNC.out w2 HBW2.out
              have hs2 := HBC.out w2 HBW2.out
              have hs3 := HRC.out w2 HBW2.out
              rcases s with _ | _
              · go_wp2_with fail
                all_goals
                  go_roundw
                  case rel => exact ⟨k + 1, by omega, by go_num, HB2, by have := HS.out; simpa [Hid] using this⟩
                  case measure => simp [intOf]; omega
              · go_wp2_with fail
                all_goals
                  go_roundw
                  case rel => exact ⟨k + 1, by omega, by go_num, HB2, by have := HS.out; simpa [Hid] using this⟩
                  case measure => simp [intOf]; omega
        · have HT : Hid (planA ls l bs rs = true) := plan_end (by omega) HGG.out HBL.out HRL.out HO.out
          have hnk : ¬ (k : Int) < (rs.length : Int) := by have := HRL.out; omega
          clear HO HATN HATS HATR
          go_wp2_with fail
          go_ret
          exact ⟨ret_bool HT.out.symm, HBW.out⟩
    · have er : ((rs.length : Int) != (ls.length : Int)) = true := by simp; omega
      have HT : Hid (planA ls l bs rs = false) := plan_noR hr
      clear hg hb hr
      go_enter Tryz.func19, Tryz.ntmps19
      go_wp2_with fail
      rw [← HWA.out]
      refine HC.out.mono ?_
      rintro e w1 ⟨rfl, hb1⟩
      have HB1 := Lib.hid (bth HA.out hb1 (Nat.le_refl _))
      obtain ⟨d0, d1, d2, d3⟩ := (P0.out.below hb1 hsz).cells
      clear hb1 c0 c1 c2 c3
      go_wp2_with fail
      go_ret
      exact ⟨ret_bool HT.out.symm, HB1.out⟩
  · have eb : ((bs.length : Int) != (ls.length : Int)) = true := by simp; omega
    have HT : Hid (planA ls l bs rs = false) := plan_noB hb
    clear hg hb
    go_enter Tryz.func19, Tryz.ntmps19
    go_wp2_with fail
    rw [← HWA.out]
    refine HC.out.mono ?_
    rintro e w1 ⟨rfl, hb1⟩
    have HB1 := Lib.hid (bth HA.out hb1 (Nat.le_refl _))
    obtain ⟨d0, d1, d2, d3⟩ := (P0.out.below hb1 hsz).cells
    clear hb1 c0 c1 c2 c3
    go_wp2_with fail
    go_ret
    exact ⟨ret_bool HT.out.symm, HB1.out⟩
theorem specPlan_b {ls : List (List Int)} {l : List Int} {bs : List Bool} {rs : List (List OpT)} {b : Bool} (h : planA ls l bs rs = b) (v : Value) (w : World) (hp : PlanV w v ls l bs rs) (hx : ∀ l ∈ rs, ∀ f ∈ l, f.2.2.length ≤ maxLen) : Calls Tryz.prog 19 #[v] w (BoolPost b w) := by
  have := specPlan_any ls l bs rs v w hp hx; rwa [h] at this

end Go.Proofs.YtcfhfhpdnjaokaaGreatDoor

/- Walks: whether a plan is good, of the program. -/
namespace Go.Proofs.YtcfhfhpdnjaokaaGreatDoor
open Go.RowKit Pth

set_option maxRecDepth 20000 in
set_option maxHeartbeats 8000000 in
theorem implPlan_any (ls : List (List Int)) (l : List Int) (bs : List Bool) (rs : List (List OpT)) (v : Value) (w : World) (hp : PlanV w v ls l bs rs) (hx : ∀ l ∈ rs, ∀ f ∈ l, f.2.2.length ≤ maxLen) :
    Calls Tryz.prog 18 #[v] w (BoolPost (planA ls l bs rs) w) := by
  obtain ⟨nv, ov, sv, rv, rfl, h1, h2, h3, h4⟩ := hp
  have H1 := Lib.hid h1
  have H2 := Lib.hid h2
  obtain ⟨as0, cs, rfl, hs1, hs2, hats⟩ := h3.boolsW
  obtain ⟨an, cn, rfl, hn1, hn2, hatn⟩ := h1.lists
  obtain ⟨ao, co, rfl, ho1, ho2, _⟩ := h2.ints
  obtain ⟨ar, cr, rfl, hr1, hr2, hatr⟩ := h4.lists
  clear h1 h2 h3 h4
  unfold maxLen at hs2 hn2 ho2 hr2
  obtain ⟨wa, hwa⟩ : ∃ wa, wa = w.alloc (.cells #[.slice an ls.length cn, .slice ao l.length co, .slice as0 bs.length cs, .slice ar rs.length cr] 30) := ⟨_, rfl⟩
  have hsz : w.heap.size < wa.heap.size := by rw [hwa]; simp
  have P0 : Hid (Blk4 wa w.heap.size 30 (.slice an ls.length cn) (.slice ao l.length co) (.slice as0 bs.length cs) (.slice ar rs.length cr)) := by rw [hwa]; exact Blk4.new
  have HA : Hid (Below w.heap.size w wa) := by rw [hwa]; exact (Below.refl w.heap.size w).alloc (Nat.le_refl _) _
  have HC := Lib.hid (implGood_any ls l (.agg #[.slice an ls.length cn, .slice ao l.length co]) wa ⟨_, _, rfl, H1.out.below HA.out, H2.out.below HA.out⟩)
  have HWA := Lib.hid hwa
  have HATS := Lib.hid hats
  have HATN := Lib.hid hatn
  have HATR := Lib.hid hatr
  have HX := Lib.hid hx
  obtain ⟨c0, c1, c2, c3⟩ := P0.out.cells
  clear hwa hats hatn hatr hx
  rcases hg : goodG ls l with _ | _
  · have HT : Hid (planA ls l bs rs = false) := plan_noG hg
    rw [hg] at HC
    clear hg
    go_enter Tryz.func18, Tryz.ntmps18
    go_wp2_with fail
    rw [← HWA.out]
    refine HC.out.mono ?_
    rintro e w1 ⟨rfl, hb1⟩
    have HB1 := Lib.hid (bth HA.out hb1 (Nat.le_refl _))
    clear hb1 c0 c1 c2 c3
    go_wp2_with fail
    go_ret
    exact ⟨ret_bool HT.out.symm, HB1.out⟩
  rw [hg] at HC
  by_cases hb : bs.length = ls.length
  · have eb : ((bs.length : Int) != (ls.length : Int)) = false := by simp [hb]
    by_cases hr : rs.length = ls.length
    · have er : ((rs.length : Int) != (ls.length : Int)) = false := by simp [hr]
      have HGG := Lib.hid hg
      have HBL := Lib.hid hb
      have HRL := Lib.hid hr
      have hgg := goodG_iff.1 hg
      have HLL : Hid (∀ k (hk : k < ls.length), ls[k].length ≤ 10) := fun k hk => by
        have hw := (hgg.each k hk).1
        have := rise_len hw.1 hw.2 (by have := hgg.low; omega)
        have := hgg.high
        omega
      have hhigh := hgg.high
      clear hg hgg hb hr
      go_enter Tryz.func18, Tryz.ntmps18
      go_wp2_with fail
      rw [← HWA.out]
      refine HC.out.mono ?_
      rintro e w1 ⟨rfl, hb1⟩
      have HB1 := Lib.hid hb1
      clear hb1 c0 c1 c2 c3 HC
      obtain ⟨c0, c1, c2, c3⟩ := (P0.out.below HB1.out hsz).cells
      go_wp2_with fail
      clear c0 c1 c2 c3
      go_loopw [33] (fun i wr => ∃ k : Nat, k ≤ ls.length ∧ i = .int .i64 k ∧ Hid (Below wa.heap.size wa wr) ∧ Hid (∀ j, j < k → planP ls bs rs j = true)) (fun i _ => ls.length - (intOf i).toNat)
      case atStart => exact ⟨0, Nat.zero_le _, rfl, HB1.out, fun j hj => by omega⟩
      case round =>
        clear HB1
        obtain ⟨k, hk, rfl, HB, HO⟩ := hrel
        have HBW := Lib.hid (bth HA.out HB.out (Nat.le_refl _))
        by_cases hlt : k < ls.length
        · have hkb : k < bs.length := by have := HBL.out; omega
          have hkr : k < rs.length := by have := HRL.out; omega
          obtain ⟨gn, on, an2, cn2, rfl, hgn, hcn, hrn⟩ := HATN.out k hlt
          obtain ⟨gb, ob, rfl, hgb, hcb⟩ := HATS.out k hkb
          obtain ⟨gr, or', ar2, cr2, rfl, hgr, hcr, hrr⟩ := HATR.out k hkr
          obtain ⟨_, _, hev, hcl, hcm, _⟩ := hrr.ops
          injection hev with hea _ hec
          subst hea hec
          obtain ⟨nr, hnr⟩ : ∃ n, rs[k].length = n := ⟨_, rfl⟩
          obtain ⟨nl, hnl⟩ : ∃ n, ls[k].length = n := ⟨_, rfl⟩
          obtain ⟨s, hs⟩ : ∃ s, bs[k] = s := ⟨_, rfl⟩
          have hrl : nr ≤ maxLen := by omega
          unfold maxLen at hrl
          have hl10 : nl ≤ 10 := by have := HLL.out k hlt; omega
          rw [hnl] at hcn
          rw [hnr] at hcr hrr
          rw [hs] at hcb
          have HNC : Hid (∀ W, Below w.heap.size w W → W.cell? ⟨gn, on + k, none⟩ = some (.slice an2 nl cn2)) := fun W h => (h.cell (p := ⟨gn, on + k, none⟩) hgn).trans hcn
          have HBC : Hid (∀ W, Below w.heap.size w W → W.cell? ⟨gb, ob + k, none⟩ = some (.bool s)) := fun W h => (h.cell (p := ⟨gb, ob + k, none⟩) hgb).trans hcb
          have HRC : Hid (∀ W, Below w.heap.size w W → W.cell? ⟨gr, or' + k, none⟩ = some (.slice ar2 nr cr2)) := fun W h => (h.cell (p := ⟨gr, or' + k, none⟩) hgr).trans hcr
          obtain ⟨b1, hb1⟩ : ∃ b, goodR rs[k] (nl : Int) = b := ⟨_, rfl⟩
          have HCR : Hid (∀ W, Below w.heap.size w W → Calls Tryz.prog 76 #[.slice ar2 nr cr2, .int .i64 (nl : Int)] W (BoolPost b1 W)) := fun W h => implGood_bR hb1 _ W (hrr.below h)
          have H8 : Hid (b1 = true → nr ≤ 8) := fun h => by rw [h] at hb1; have := (goodR_iff.1 hb1).2.2.1; omega
          have hPP : planP ls bs rs k = (b1 && !(s && decide (0 < nr + nl))) := by rw [planP_at hlt hkb hkr, hnl, hb1, hnr, hs]
          have hs1 := HNC.out wr HBW.out
          have hs2 := HBC.out wr HBW.out
          have hs3 := HRC.out wr HBW.out
          have hki : (k : Int) < (bs.length : Int) := by omega
          have hkj : (k : Int) < (rs.length : Int) := by omega
          obtain ⟨c0, c1, c2, c3⟩ := (P0.out.below HB.out hsz).cells
          clear hcn hcb hcr hrn hrr hb1 HATN HATS HATR HX H1 H2 hnr hnl hs hcl hcm
          by_cases hz : 0 < nr + nl
          · rw [decide_eq_true hz] at hPP
            have HS : Hid (if b1 && !s then (∀ j, j < k + 1 → planP ls bs rs j = true) else planA ls l bs rs = false) := by
              unfold Hid
              split
              · rename_i h; exact plan_next HO.out (by rw [hPP, Bool.and_true]; exact h)
              · rename_i h; exact plan_bad hlt (by rw [hPP, Bool.and_true]; simpa using h)
            clear hPP HO
            by_cases hn0 : nl = 0
            · subst hn0
              have q2 : ((nr : Int) == 0) = false := by simp; omega
              rcases s with _ | _
              · rcases b1 with _ | _
                · go_wp2_with fail
                  refine (HCR.out wr HBW.out).mono ?_
                  rintro e w2 ⟨rfl, hb2⟩
                  have HB2 := Lib.hid (bth HB.out hb2 (Nat.le_refl _))
                  have HBW2 := Lib.hid (bth HA.out HB2.out (Nat.le_refl _))
                  clear hb2 c0 c1 c2 c3 hs1 hs2 hs3
                  obtain ⟨c0, c1, c2, c3⟩ := (P0.out.below HB2.out hsz).cells
                  have hs1 := HNC.out w2 HBW2.out
                  have hs2 := HBC.out w2 HBW2.out
                  have hs3 := HRC.out w2 HBW2.out
                  go_wp2_with fail
                  go_ret
                  exact ⟨ret_bool (by have := HS.out; simp at this; simp [this]), HBW2.out⟩
                · go_wp2_with fail
                  refine (HCR.out wr HBW.out).mono ?_
                  rintro e w2 ⟨rfl, hb2⟩
                  have HB2 := Lib.hid (bth HB.out hb2 (Nat.le_refl _))
                  have HBW2 := Lib.hid (bth HA.out HB2.out (Nat.le_refl _))
                  clear hb2 c0 c1 c2 c3 hs1 hs2 hs3
                  obtain ⟨c0, c1, c2, c3⟩ := (P0.out.below HB2.out hsz).cells
                  have hs1 := HNC.out w2 HBW2.out
                  have hs2 := HBC.out w2 HBW2.out
                  have hs3 := HRC.out w2 HBW2.out
                  go_wp2_with fail
                  all_goals
                    go_roundw
                    case rel => exact ⟨k + 1, by omega, by go_num, HB2, by have := HS.out; simpa [Hid] using this⟩
                    case measure => simp [intOf]; omega
              · go_wp2_with fail
                go_ret
                exact ⟨ret_bool (by have := HS.out; simp at this; simp [this]), HBW.out⟩
            · have q1 : ((nl : Int) == 0) = false := by simpa using hn0
              rcases s with _ | _
              · rcases b1 with _ | _
                · go_wp2_with fail
                  refine (HCR.out wr HBW.out).mono ?_
                  rintro e w2 ⟨rfl, hb2⟩
                  have HB2 := Lib.hid (bth HB.out hb2 (Nat.le_refl _))
                  have HBW2 := Lib.hid (bth HA.out HB2.out (Nat.le_refl _))
                  clear hb2 c0 c1 c2 c3 hs1 hs2 hs3
                  obtain ⟨c0, c1, c2, c3⟩ := (P0.out.below HB2.out hsz).cells
                  have hs1 := HNC.out w2 HBW2.out
                  have hs2 := HBC.out w2 HBW2.out
                  have hs3 := HRC.out w2 HBW2.out
                  go_wp2_with fail
                  go_ret
                  exact ⟨ret_bool (by have := HS.out; simp at this; simp [this]), HBW2.out⟩
                · go_wp2_with fail
                  refine (HCR.out wr HBW.out).mono ?_
                  rintro e w2 ⟨rfl, hb2⟩
                  have HB2 := Lib.hid (bth HB.out hb2 (Nat.le_refl _))
                  have HBW2 := Lib.hid (bth HA.out HB2.out (Nat.le_refl _))
                  clear hb2 c0 c1 c2 c3 hs1 hs2 hs3
                  obtain ⟨c0, c1, c2, c3⟩ := (P0.out.below HB2.out hsz).cells
                  have hs1 := HNC.out w2 HBW2.out
                  have hs2 := HBC.out w2 HBW2.out
                  have hs3 := HRC.out w2 HBW2.out
                  go_wp2_with fail
                  all_goals
                    go_roundw
                    case rel => exact ⟨k + 1, by omega, by go_num, HB2, by have := HS.out; simpa [Hid] using this⟩
                    case measure => simp [intOf]; omega
              · go_wp2_with fail
                go_ret
                exact ⟨ret_bool (by have := HS.out; simp at this; simp [this]), HBW.out⟩
          · rw [decide_eq_false hz] at hPP
            have HS : Hid (if b1 then (∀ j, j < k + 1 → planP ls bs rs j = true) else planA ls l bs rs = false) := by
              unfold Hid
              split
              · rename_i h; exact plan_next HO.out (by rw [hPP, Bool.and_false, h]; rfl)
              · rename_i h; exact plan_bad hlt (by rw [hPP, Bool.and_false]; simpa using h)
            clear hPP HO
            obtain rfl : nr = 0 := by omega
            obtain rfl : nl = 0 := by omega
            clear hz
            rcases b1 with _ | _
            · rcases s with _ | _
              · go_wp2_with fail
                refine (HCR.out wr HBW.out).mono ?_
                rintro e w2 ⟨rfl, hb2⟩
                have HB2 := Lib.hid (bth HB.out hb2 (Nat.le_refl _))
                have HBW2 := Lib.hid (bth HA.out HB2.out (Nat.le_refl _))
                clear hb2 c0 c1 c2 c3 hs1 hs2 hs3
                obtain ⟨c0, c1, c2, c3⟩ := (P0.out.below HB2.out hsz).cells
                have hs1 := HNC.out w2 HBW2.out
                have hs2 := HBC.out w2 HBW2.out
                have hs3 := HRC.out w2 HBW2.out
                go_wp2_with fail
                go_ret
                exact ⟨ret_bool (by have := HS.out; simp at this; simp [this]), HBW2.out⟩
              · go_wp2_with fail
                refine (HCR.out wr HBW.out).mono ?_
                rintro e w2 ⟨rfl, hb2⟩
                have HB2 := Lib.hid (bth HB.out hb2 (Nat.le_refl _))
                have HBW2 := Lib.hid (bth HA.out HB2.out (Nat.le_refl _))
                clear hb2 c0 c1 c2 c3 hs1 hs2 hs3
                obtain ⟨c0, c1, c2, c3⟩ := (P0.out.below HB2.out hsz).cells
                have hs1 := HNC.out w2 HBW2.out
                have hs2 := HBC.out w2 HBW2.out
                have hs3 := HRC.out w2 HBW2.out
                go_wp2_with fail
                go_ret
                exact ⟨ret_bool (by have := HS.out; simp at this; simp [this]), HBW2.out⟩
            · rcases s with _ | _
              · go_wp2_with fail
                refine (HCR.out wr HBW.out).mono ?_
                rintro e w2 ⟨rfl, hb2⟩
                have HB2 := Lib.hid (bth HB.out hb2 (Nat.le_refl _))
                have HBW2 := Lib.hid (bth HA.out HB2.out (Nat.le_refl _))
                clear hb2 c0 c1 c2 c3 hs1 hs2 hs3
                obtain ⟨c0, c1, c2, c3⟩ := (P0.out.below HB2.out hsz).cells
                have hs1 := HNC.out w2 HBW2.out
                have hs2 := HBC.out w2 HBW2.out
                have hs3 := HRC.out w2 HBW2.out
                go_wp2_with fail
                all_goals
                  go_roundw
                  case rel => exact ⟨k + 1, by omega, by go_num, HB2, by have := HS.out; simpa [Hid] using this⟩
                  case measure => simp [intOf]; omega
              · go_wp2_with fail
                refine (HCR.out wr HBW.out).mono ?_
                rintro e w2 ⟨rfl, hb2⟩
                have HB2 := Lib.hid (bth HB.out hb2 (Nat.le_refl _))
                have HBW2 := Lib.hid (bth HA.out HB2.out (Nat.le_refl _))
                clear hb2 c0 c1 c2 c3 hs1 hs2 hs3
                obtain ⟨c0, c1, c2, c3⟩ := (P0.out.below HB2.out hsz).cells
                have hs1 := HNC.out w2 HBW2.out
                have hs2 := HBC.out w2 HBW2.out
                have hs3 := HRC.out w2 HBW2.out
                go_wp2_with fail
                all_goals
                  go_roundw
                  case rel => exact ⟨k + 1, by omega, by go_num, HB2, by have := HS.out; simpa [Hid] using this⟩
                  case measure => simp [intOf]; omega
        · have HT : Hid (planA ls l bs rs = true) := plan_end (by omega) HGG.out HBL.out HRL.out HO.out
          have hnk : ¬ (k : Int) < (rs.length : Int) := by have := HRL.out; omega
          clear HO HATN HATS HATR
          go_wp2_with fail
          go_ret
          exact ⟨ret_bool HT.out.symm, HBW.out⟩
    · have er : ((rs.length : Int) != (ls.length : Int)) = true := by simp; omega
      have HT : Hid (planA ls l bs rs = false) := plan_noR hr
      clear hg hb hr
      go_enter Tryz.func18, Tryz.ntmps18
      go_wp2_with fail
      rw [← HWA.out]
      refine HC.out.mono ?_
      rintro e w1 ⟨rfl, hb1⟩
      have HB1 := Lib.hid (bth HA.out hb1 (Nat.le_refl _))
      obtain ⟨d0, d1, d2, d3⟩ := (P0.out.below hb1 hsz).cells
      clear hb1 c0 c1 c2 c3
      go_wp2_with fail
      go_ret
      exact ⟨ret_bool HT.out.symm, HB1.out⟩
  · have eb : ((bs.length : Int) != (ls.length : Int)) = true := by simp; omega
    have HT : Hid (planA ls l bs rs = false) := plan_noB hb
    clear hg hb
    go_enter Tryz.func18, Tryz.ntmps18
    go_wp2_with fail
    rw [← HWA.out]
    refine HC.out.mono ?_
    rintro e w1 ⟨rfl, hb1⟩
    have HB1 := Lib.hid (bth HA.out hb1 (Nat.le_refl _))
    obtain ⟨d0, d1, d2, d3⟩ := (P0.out.below hb1 hsz).cells
    clear hb1 c0 c1 c2 c3
    go_wp2_with fail
    go_ret
    exact ⟨ret_bool HT.out.symm, HB1.out⟩
theorem implPlan_b {ls : List (List Int)} {l : List Int} {bs : List Bool} {rs : List (List OpT)} {b : Bool} (h : planA ls l bs rs = b) (v : Value) (w : World) (hp : PlanV w v ls l bs rs) (hx : ∀ l ∈ rs, ∀ f ∈ l, f.2.2.length ≤ maxLen) : Calls Tryz.prog 18 #[v] w (BoolPost b w) := by
  have := implPlan_any ls l bs rs v w hp hx; rwa [h] at this

end Go.Proofs.YtcfhfhpdnjaokaaGreatDoor

/- Walks: whether there is such a task, where it stands. -/
namespace Go.Proofs.YtcfhfhpdnjaokaaGreatDoor
open Go.RowKit Pth

/-- There is such a task, in a good graph. -/
noncomputable def taskG (ls : List (List Int)) (l : List Int) (k : Int) : Bool := goodG ls l && (decide (0 ≤ k) && decide (k < (ls.length : Int)))
theorem taskG_yes {ls : List (List Int)} {l : List Int} {k : Int} (h : taskG ls l k = true) : GoodG ls l ∧ 0 ≤ k ∧ k < (ls.length : Int) := by
  unfold taskG at h
  simp only [Bool.and_eq_true, decide_eq_true_eq] at h
  exact ⟨goodG_iff.1 h.1, h.2⟩
theorem taskG_good {ls : List (List Int)} {l : List Int} {k : Int} (h : goodG ls l = false) : taskG ls l k = false := by unfold taskG; rw [h]; rfl
theorem taskG_in {ls : List (List Int)} {l : List Int} {k : Int} (h : goodG ls l = true) : taskG ls l k = (decide (0 ≤ k) && decide (k < (ls.length : Int))) := by unfold taskG; rw [h]; rfl

theorem l1In_task {k : Int} {n : Nat} {w : World} {b : Bool} (h : (decide (0 ≤ k) && decide (k < (n : Int))) = b) :
    Calls Tryz.prog 136 #[.int .i64 k, .int .i64 0, .int .i64 ((n : Int) - 1)] w fun e w' => e = .returned (.bool b) ∧ w = w' := by
  have e : (decide (0 ≤ k) && decide (k ≤ (n : Int) - 1)) = b := by rw [← h, Bool.eq_iff_iff]; simp; omega
  have := l1In_any k 0 ((n : Int) - 1) w
  rw [e] at this
  exact this

set_option maxRecDepth 20000 in
set_option maxHeartbeats 1000000 in
theorem l5Task_any (ls : List (List Int)) (l : List Int) (k : Int) (v : Value) (w : World) (hst : GraphV w v ls l) :
    Calls Tryz.prog 196 #[v, .int .i64 k] w fun e w' => e = .returned (.bool (taskG ls l k)) ∧ Below w.heap.size w w' := by
  have HV := Lib.hid hst
  obtain ⟨nv, ov, rfl, h1, h2⟩ := hst
  obtain ⟨an, cn, rfl, hn1, hn2, _⟩ := h1.lists
  obtain ⟨ao, co, rfl, ho1, ho2, _⟩ := h2.ints
  clear h1 h2
  unfold maxLen at hn2 ho2
  obtain ⟨wa, hwa⟩ : ∃ wa, wa = w.alloc (.cells #[.slice an ls.length cn, .slice ao l.length co] 26) := ⟨_, rfl⟩
  have P0 : Hid (Blk2 wa w.heap.size 26 (.slice an ls.length cn) (.slice ao l.length co)) := by rw [hwa]; exact Blk2.new
  have HA : Hid (Below w.heap.size w wa) := by rw [hwa]; exact (Below.refl w.heap.size w).alloc (Nat.le_refl _) _
  have hsz : w.heap.size < wa.heap.size := by rw [hwa]; simp
  have HWA := Lib.hid hwa
  have HC := specGood_any ls l _ wa (HV.out.below HA.out)
  clear hwa
  rcases hG : goodG ls l with _ | _
  · rw [hG] at HC
    have HCC := Lib.hid HC
    have HT := Lib.hid (taskG_good (k := k) hG)
    rw [HT.out]
    clear HC hG
    go_enter Tryz.func196, Tryz.ntmps196
    go_wp2_with fail
    rw [← HWA.out]
    refine HCC.out.mono ?_
    rintro e w1 ⟨rfl, hb1⟩
    have HB1 := Lib.hid (bth HA.out hb1 (Nat.le_refl _))
    clear hb1
    go_wp2_with fail
    go_ret
    exact ⟨rfl, HB1.out⟩
  · rw [hG] at HC
    have HCC := Lib.hid HC
    have HT := Lib.hid (taskG_in (k := k) hG)
    rw [HT.out]
    generalize hb : (decide (0 ≤ k) && decide (k < (ls.length : Int))) = b
    have HI := Lib.hid (fun W => l1In_task (n := ls.length) (w := W) hb)
    clear HC hG hb HT
    go_enter Tryz.func196, Tryz.ntmps196
    go_wp2_with fail
    rw [← HWA.out]
    refine HCC.out.mono ?_
    rintro e w1 ⟨rfl, hb1⟩
    have HB1 := Lib.hid (bth HA.out hb1 (Nat.le_refl _))
    have c0 := (P0.out.below hb1 hsz).cells.1
    clear hb1
    go_wp2_with fail
    refine (HI.out _).mono ?_
    rintro e w2 ⟨rfl, rfl⟩
    go_wp2_with fail
    go_ret
    exact ⟨rfl, HB1.out⟩

set_option maxHeartbeats 1000000 in
theorem index_any (l : List Int) (n : Int) (v : Value) (w : World) (hrow : RowV w v (I l)) :
    Calls Tryz.prog 154 #[v, .int .i64 n] w fun e w' => e = .returned (.int .i64 (placeI l n)) ∧ w = w' := by
  obtain ⟨a, cap, rfl, hc1, hc2, hat⟩ := hrow.ints
  clear hrow
  unfold maxLen at hc2
  go_enter Tryz.func154, Tryz.ntmps154
  go_wp2_with fail
  go_loop [8] (fun i => ∃ k : Nat, k ≤ l.length ∧ i = .int .i64 k ∧ Hid (n ∉ l.take k)) (fun i => l.length - (intOf i).toNat)
  case atStart => exact ⟨0, Nat.zero_le _, rfl, by simp [Hid]⟩
  case round =>
    obtain ⟨k, hk, rfl, HO⟩ := hrel
    by_cases hlt : k < l.length
    · obtain ⟨g, o, rfl, hg, hcell⟩ := hat k hlt
      clear hat
      by_cases hx : l[k] = n
      · have HR : Hid (placeI l n = k) := place_at hlt HO.out hx
        have hx1 : (n == l[k]) = true := by simp [hx]
        generalize l[k] = x at hcell hx hx1
        clear HO hx
        go_wp2_with fail
        go_ret
        exact ⟨ret_int HR.out.symm, rfl⟩
      · have HR : Hid (n ∉ l.take (k + 1)) := not_take hlt HO.out hx
        have hx1 : (n == l[k]) = false := by simp; exact fun h => hx h.symm
        generalize l[k] = x at hcell hx hx1
        clear HO hx
        go_wp2_with fail
        go_round
        case rel => exact ⟨k + 1, by omega, by go_num, HR⟩
        case measure => simp [intOf]; omega
    · have HR : Hid (placeI l n = -1) := by have := HO.out; rw [List.take_of_length_le (by omega)] at this; exact place_none this
      clear HO hat
      go_wp2_with fail
      go_ret
      exact ⟨ret_int HR.out.symm, rfl⟩

set_option maxHeartbeats 1000000 in
theorem contains_any (l : List Int) (n : Int) (v : Value) (w : World) (hrow : RowV w v (I l)) :
    Calls Tryz.prog 100 #[v, .int .i64 n] w fun e w' => e = .returned (.bool (hasL l n)) ∧ w = w' := by
  have HC := Lib.hid (index_any l n v w hrow)
  have HR : Hid (decide (placeI l n ≥ 0) = hasL l n) := by
    show decide (placeI l n ≥ 0) = hasL l n
    rw [hasL, Bool.eq_iff_iff, decide_eq_true_iff, decide_eq_true_iff]; exact place_nonneg
  obtain ⟨a, cap, rfl, hc1, hc2, _⟩ := hrow.ints
  clear hrow
  unfold maxLen at hc2
  go_enter Tryz.func100, Tryz.ntmps100
  go_wp2_with fail
  refine HC.out.mono ?_
  rintro e w1 ⟨rfl, rfl⟩
  go_wp2_with fail
  go_ret
  exact ⟨ret_bool HR.out, rfl⟩

/-- Where a task stands, and whether there is such a one. -/
noncomputable def placeA (ls : List (List Int)) (l : List Int) (k : Int) : Int := if taskG ls l k then placeI l k else 0
def PlacePost (ls : List (List Int)) (l : List Int) (k : Int) (w : World) (e : Ending) (w' : World) : Prop := e = .returned (.tuple #[.int .i64 (placeA ls l k), .bool (taskG ls l k)]) ∧ Below w.heap.size w w'

end Go.Proofs.YtcfhfhpdnjaokaaGreatDoor

/- Plain mathematics of ways of needs: how far, by a queue and along the order; no program. -/
namespace Go.Proofs.YtcfhfhpdnjaokaaGreatDoor
namespace Pth

/-- What a task needs. -/
def needsAt (ls : List (List Int)) (k : Int) : List Int := ls.getD k.toNat []
theorem needsAt_get {ls : List (List Int)} {k : Nat} (hk : k < ls.length) : needsAt ls k = ls[k] := by
  unfold needsAt; simp [hk]
/-- So many needs lead from a task to t. -/
def Way (ls : List (List Int)) (t : Int) : Nat → Int → Prop
  | 0, k => k = t
  | m + 1, k => ∃ x ∈ needsAt ls k, Way ls t m x
/-- How many at least, -1 for none. -/
def IsFar (ls : List (List Int)) (t k d : Int) : Prop := (∃ m : Nat, d = m ∧ Way ls t m k ∧ ∀ j, j < m → ¬ Way ls t j k) ∨ (d = -1 ∧ ∀ m, ¬ Way ls t m k)
theorem far_exists (ls : List (List Int)) (t k : Int) : ∃ d, IsFar ls t k d := by
  rcases Classical.em (∃ m, Way ls t m k) with ⟨m, hm⟩ | h
  · induction m using Nat.strongRecOn with
    | ind m ih =>
      rcases Classical.em (∃ j, j < m ∧ Way ls t j k) with ⟨j, hj, hw⟩ | h
      · exact ih j hj hw
      · exact ⟨m, .inl ⟨m, rfl, hm, fun j hj hw => h ⟨j, hj, hw⟩⟩⟩
  · exact ⟨-1, .inr ⟨rfl, fun m hm => h ⟨m, hm⟩⟩⟩
theorem far_one {ls : List (List Int)} {t k d e : Int} (h : IsFar ls t k d) (h' : IsFar ls t k e) : d = e := by
  rcases h with ⟨m, rfl, h1, h2⟩ | ⟨rfl, h1⟩ <;> rcases h' with ⟨m', rfl, h1', h2'⟩ | ⟨rfl, h1'⟩
  · rcases Nat.lt_trichotomy m m' with h | h | h
    · exact absurd h1 (h2' m h)
    · rw [h]
    · exact absurd h1' (h2 m' h)
  · exact absurd h1 (h1' m)
  · exact absurd h1' (h1 m')
  · rfl
noncomputable def farI (ls : List (List Int)) (t k : Int) : Int := Classical.choose (far_exists ls t k)
theorem farI_is (ls : List (List Int)) (t k : Int) : IsFar ls t k (farI ls t k) := Classical.choose_spec (far_exists ls t k)
theorem farI_eq {ls : List (List Int)} {t k d : Int} (h : IsFar ls t k d) : farI ls t k = d := far_one (farI_is ls t k) h
theorem farI_low (ls : List (List Int)) (t k : Int) : -1 ≤ farI ls t k := by
  rcases farI_is ls t k with ⟨m, h, _⟩ | ⟨h, _⟩ <;> omega
theorem farI_self (ls : List (List Int)) (t : Int) : farI ls t t = 0 := farI_eq (.inl ⟨0, rfl, rfl, fun j hj => by omega⟩)
theorem farI_zero {ls : List (List Int)} {t k : Int} (h : farI ls t k = 0) : k = t := by
  rcases farI_is ls t k with ⟨m, hm, h1, _⟩ | ⟨hm, _⟩
  · have : m = 0 := by omega
    subst this; exact h1
  · omega
theorem farI_le {ls : List (List Int)} {t k : Int} {m : Nat} (h : Way ls t m k) : 0 ≤ farI ls t k ∧ farI ls t k ≤ m := by
  rcases farI_is ls t k with ⟨j, hj, h1, h2⟩ | ⟨_, h1⟩
  · rcases Nat.lt_or_ge m j with h' | h'
    · exact absurd h (h2 m h')
    · omega
  · exact absurd h (h1 m)
theorem farI_way {ls : List (List Int)} {t k : Int} (h : 0 ≤ farI ls t k) : Way ls t (farI ls t k).toNat k := by
  rcases farI_is ls t k with ⟨j, hj, h1, h2⟩ | ⟨h', _⟩
  · rw [hj]; exact h1
  · omega
/-- The next one on a shortest way. -/
theorem far_next {ls : List (List Int)} {t k : Int} {m : Nat} (h : farI ls t k = (m : Int) + 1) : ∃ x ∈ needsAt ls k, farI ls t x = m := by
  have hw := farI_way (ls := ls) (t := t) (k := k) (by omega)
  rw [h, show ((m : Int) + 1).toNat = m + 1 by omega] at hw
  obtain ⟨x, hx, hxw⟩ := hw
  refine ⟨x, hx, ?_⟩
  have h1 := farI_le hxw
  by_cases h' : farI ls t x < m
  · have h2 := farI_way h1.1
    have h3 : Way ls t ((farI ls t x).toNat + 1) k := ⟨x, hx, h2⟩
    have h4 := farI_le h3
    omega
  · omega
theorem far_edge {ls : List (List Int)} {t k x : Int} (hx : x ∈ needsAt ls k) (h : 0 ≤ farI ls t x) : 0 ≤ farI ls t k ∧ farI ls t k ≤ farI ls t x + 1 := by
  have h3 : Way ls t ((farI ls t x).toNat + 1) k := ⟨x, hx, farI_way h⟩
  have h4 := farI_le h3
  omega

/-- The next ones least. -/
noncomputable def nextI (ls : List (List Int)) (t k : Int) : Int := ((needsAt ls k).find? (fun x => decide (farI ls t x = farI ls t k - 1))).getD t
noncomputable def wayL (ls : List (List Int)) (t : Int) : Nat → Int → List Int
  | 0, k => [k]
  | m + 1, k => k :: wayL ls t m (nextI ls t k)
theorem next_at {ls : List (List Int)} {t k : Int} {j : Nat} (hj : j < (needsAt ls k).length) (h : ∀ i (hi : i < j), farI ls t (needsAt ls k)[i] ≠ farI ls t k - 1) (he : farI ls t (needsAt ls k)[j] = farI ls t k - 1) : nextI ls t k = (needsAt ls k)[j] := by
  have : (needsAt ls k).find? (fun x => decide (farI ls t x = farI ls t k - 1)) = some (needsAt ls k)[j] := by
    rw [List.find?_eq_some_iff_getElem]
    refine ⟨by simpa using he, j, hj, rfl, fun i hi => ?_⟩
    have := h i hi
    simpa using this
  unfold nextI
  rw [this]; rfl
theorem next_far {ls : List (List Int)} {t k : Int} {m : Nat} (h : farI ls t k = (m : Int) + 1) : farI ls t (nextI ls t k) = m ∧ nextI ls t k ∈ needsAt ls k := by
  obtain ⟨x, hx, hf⟩ := far_next h
  have : ((needsAt ls k).find? (fun x => decide (farI ls t x = farI ls t k - 1))).isSome = true := by
    rw [List.find?_isSome]
    exact ⟨x, hx, by simp; omega⟩
  obtain ⟨y, hy⟩ := Option.isSome_iff_exists.1 this
  have h1 := List.find?_some hy
  have h2 := List.mem_of_find?_eq_some hy
  simp only [decide_eq_true_eq] at h1
  unfold nextI
  rw [hy]
  exact ⟨by simp only [Option.getD_some]; omega, h2⟩
theorem wayL_len (ls : List (List Int)) (t : Int) (m : Nat) (k : Int) : (wayL ls t m k).length = m + 1 := by
  induction m generalizing k with
  | zero => rfl
  | succ m ih => rw [wayL, List.length_cons, ih]

/-- What the queue keeps while one is looked at: those that are behind it, those that are left. -/
structure Spread (ls : List (List Int)) (t : Int) (out : List Int) (all : List Int) : Prop where
  len : out.length = ls.length
  self : t ∈ all ∧ out.getD t.toNat (-1) = 0
  sound : ∀ k : Nat, k < ls.length → (out.getD k (-1) = -1 ∧ (k : Int) ∉ all) ∨ (0 ≤ out.getD k (-1) ∧ (k : Int) ∈ all ∧ Way ls t (out.getD k (-1)).toNat k)
  range : ∀ k ∈ all, 0 ≤ k ∧ k < (ls.length : Int)
  nodup : all.Nodup
/-- How far by the list so far. -/
def at' (out : List Int) (k : Int) : Int := out.getD k.toNat (-1)
structure Front (ls : List (List Int)) (t : Int) (out : List Int) (done queue : List Int) : Prop where
  spread : Spread ls t out (done ++ queue)
  sorted : queue.Pairwise (fun a b => at' out a ≤ at' out b)
  near : ∀ q r, queue = q :: r → ∀ p ∈ done ++ queue, at' out p ≤ at' out q + 1
  closed : ∀ x ∈ done, ∀ k : Nat, (hk : k < ls.length) → x ∈ ls[k] → (k : Int) ∈ done ++ queue ∧ at' out k ≤ at' out x + 1
structure Inner (ls : List (List Int)) (t : Int) (out : List Int) (done : List Int) (x : Int) (d : Int) (queue us : List Int) : Prop where
  spread : Spread ls t out (done ++ x :: queue)
  dist : at' out x = d
  d0 : 0 ≤ d
  sorted : queue.Pairwise (fun a b => at' out a ≤ at' out b)
  least : ∀ q ∈ queue, d ≤ at' out q
  near : ∀ p ∈ done ++ x :: queue, at' out p ≤ d + 1
  closed : ∀ y ∈ done, ∀ k : Nat, (hk : k < ls.length) → y ∈ ls[k] → (k : Int) ∈ done ++ x :: queue ∧ at' out k ≤ at' out y + 1
  seen : ∀ k ∈ us, k ∈ done ++ x :: queue

theorem at_start {n : Nat} {t : Nat} (ht : t < n) (k : Nat) (hk : k < n) : ((List.replicate n (-1 : Int)).set t 0).getD k (-1) = if k = t then 0 else -1 := by
  rw [List.getD_eq_getElem?_getD, List.getElem?_set]
  by_cases h : t = k
  · subst h; simp [ht]
  · rw [if_neg h, if_neg (fun e => h e.symm)]; simp [hk]
theorem Front.start {ls : List (List Int)} {t : Nat} (ht : t < ls.length) : Front ls t ((List.replicate ls.length (-1)).set t 0) [] [(t : Int)] := by
  refine ⟨⟨by simp, ⟨by simp, ?_⟩, fun k hk => ?_, fun k hk => ?_, by simp⟩, by simp, fun q r h p hp => ?_, by simp⟩
  · rw [show ((t : Int)).toNat = t by omega, at_start ht t ht, if_pos rfl]
  · rw [at_start ht k hk]
    by_cases h : k = t
    · subst h; rw [if_pos rfl]; exact .inr ⟨by omega, by simp, rfl⟩
    · rw [if_neg h]; exact .inl ⟨rfl, by simp; omega⟩
  · simp at hk; omega
  · simp only [List.nil_append, List.mem_singleton] at hp
    injection h with h1 h2
    rw [hp, ← h1]; omega
theorem Front.open {ls : List (List Int)} {t : Int} {out done queue : List Int} {x : Int} (h : Front ls t out done (x :: queue)) : Inner ls t out done x (at' out x) queue [] := by
  have hx := h.spread.range x (by simp)
  have h2 := List.pairwise_cons.1 h.sorted
  refine ⟨h.spread, rfl, ?_, h2.2, fun q hq => h2.1 q hq, fun p hp => h.near x queue rfl p hp, h.closed, by simp⟩
  rcases h.spread.sound x.toNat (by omega) with h3 | h3
  · rw [show ((x.toNat : Nat) : Int) = x by omega] at h3; exact absurd (by simp) h3.2
  · exact h3.1
theorem Inner.close {ls : List (List Int)} {t : Int} {out done queue us : List Int} {x d : Int} (h : Inner ls t out done x d queue us) (hus : ∀ k : Nat, (hk : k < ls.length) → x ∈ ls[k] → (k : Int) ∈ us) : Front ls t out (done ++ [x]) queue := by
  have e : done ++ [x] ++ queue = done ++ x :: queue := by simp
  refine ⟨by rw [e]; exact h.spread, h.sorted, fun q r hq p hp => ?_, fun y hy k hk hm => ?_⟩
  · rw [e] at hp
    have h1 := h.near p hp
    have h2 := h.least q (by rw [hq]; simp)
    omega
  · rw [e]
    rw [List.mem_append, List.mem_singleton] at hy
    rcases hy with hy | rfl
    · exact h.closed y hy k hk hm
    · have := h.seen k (hus k hk hm)
      exact ⟨this, by have := h.near k this; rw [h.dist]; exact this⟩
theorem Inner.skip {ls : List (List Int)} {t : Int} {out done queue us : List Int} {x d : Int} {k : Nat} (h : Inner ls t out done x d queue us) (hk : k < ls.length) (hs : ¬ at' out k < 0) : Inner ls t out done x d queue (us ++ [(k : Int)]) := by
  refine ⟨h.spread, h.dist, h.d0, h.sorted, h.least, h.near, h.closed, fun j hj => ?_⟩
  rw [List.mem_append, List.mem_singleton] at hj
  rcases hj with hj | rfl
  · exact h.seen j hj
  · rcases h.spread.sound k hk with h1 | h1
    · exact absurd (show at' out k < 0 by unfold at'; rw [show ((k : Int)).toNat = k by omega, h1.1]; omega) hs
    · exact h1.2.1
theorem set_at {out : List Int} {k j : Nat} {e : Int} (hk : k < out.length) : (out.set k e).getD j (-1) = if j = k then e else out.getD j (-1) := by
  rw [List.getD_eq_getElem?_getD, List.getElem?_set, List.getD_eq_getElem?_getD]
  by_cases h : k = j
  · subst h; simp [hk]
  · rw [if_neg h, if_neg (fun e => h e.symm)]
theorem Inner.put {ls : List (List Int)} {t : Int} {out done queue us : List Int} {x d : Int} {k : Nat} (h : Inner ls t out done x d queue us) (hk : k < ls.length) (hm : x ∈ ls[k]) (hs : at' out k < 0) :
    Inner ls t (out.set k (d + 1)) done x d (queue ++ [(k : Int)]) (us ++ [(k : Int)]) := by
  have hkl : k < out.length := by rw [h.spread.len]; exact hk
  have hno : (k : Int) ∉ done ++ x :: queue := by
    rcases h.spread.sound k hk with h1 | h1
    · exact h1.2
    · exact absurd h1.1 (by unfold at' at hs; rw [show ((k : Int)).toNat = k by omega] at hs; omega)
  have e : done ++ x :: (queue ++ [(k : Int)]) = (done ++ x :: queue) ++ [(k : Int)] := by simp
  have same : ∀ p ∈ done ++ x :: queue, at' (out.set k (d + 1)) p = at' out p := by
    intro p hp
    have hr := h.spread.range p hp
    unfold at'
    rw [set_at hkl, if_neg]
    intro he
    exact hno (by rw [← he, show ((p.toNat : Nat) : Int) = p by omega]; exact hp)
  have new : at' (out.set k (d + 1)) k = d + 1 := by
    unfold at'
    rw [show ((k : Int)).toNat = k by omega, set_at hkl, if_pos rfl]
  have hx := h.spread.range x (by simp)
  have hway : Way ls t d.toNat x := by
    rcases h.spread.sound x.toNat (by omega) with h1 | h1
    · rw [show ((x.toNat : Nat) : Int) = x by omega] at h1; exact absurd (by simp) h1.2
    · have := h1.2.2
      rw [show ((x.toNat : Nat) : Int) = x by omega] at this
      have hd := h.dist
      unfold at' at hd
      rw [hd] at this; exact this
  have d0 := h.d0
  refine ⟨⟨by rw [List.length_set]; exact h.spread.len, ⟨by rw [e]; exact List.mem_append.2 (.inl h.spread.self.1), ?_⟩, fun j hj => ?_, fun j hj => ?_, ?_⟩, by rw [same x (by simp)]; exact h.dist, d0, ?_, fun q hq => ?_, fun p hp => ?_, fun y hy j hj hym => ?_, fun j hj => ?_⟩
  · have := same t h.spread.self.1
    unfold at' at this
    rw [this]; exact h.spread.self.2
  · rw [e, set_at hkl]
    by_cases hjk : j = k
    · subst hjk
      rw [if_pos rfl]
      refine .inr ⟨by omega, by simp, ?_⟩
      rw [show (d + 1).toNat = d.toNat + 1 by omega]
      exact ⟨x, by rw [needsAt_get hj]; exact hm, hway⟩
    · rw [if_neg hjk]
      rcases h.spread.sound j hj with h1 | h1
      · exact .inl ⟨h1.1, by rw [List.mem_append, List.mem_singleton]; rintro (h2 | h2); exact h1.2 h2; omega⟩
      · exact .inr ⟨h1.1, List.mem_append.2 (.inl h1.2.1), h1.2.2⟩
  · rw [e, List.mem_append, List.mem_singleton] at hj
    rcases hj with hj | rfl
    · exact h.spread.range j hj
    · omega
  · rw [e, List.nodup_append]
    refine ⟨h.spread.nodup, by simp, fun a ha b hb => ?_⟩
    rw [List.mem_singleton] at hb
    rintro rfl
    exact hno (by rw [← hb]; exact ha)
  · rw [List.pairwise_append]
    refine ⟨h.sorted.imp_of_mem (fun ha hb hab => by rw [same _ (by simp [ha]), same _ (by simp [hb])]; exact hab), by simp, fun a ha b hb => ?_⟩
    rw [List.mem_singleton] at hb
    rw [hb, new, same a (by simp [ha])]
    exact h.near a (by simp [ha])
  · rw [List.mem_append, List.mem_singleton] at hq
    rcases hq with hq | rfl
    · rw [same q (by simp [hq])]; exact h.least q hq
    · rw [new]; omega
  · rw [e, List.mem_append, List.mem_singleton] at hp
    rcases hp with hp | rfl
    · rw [same p hp]; exact h.near p hp
    · rw [new]; omega
  · obtain ⟨h1, h2⟩ := h.closed y hy j hj hym
    rw [e, same _ h1, same y (by simp [hy])]
    exact ⟨List.mem_append.2 (.inl h1), h2⟩
  · rw [e, List.mem_append]
    rw [List.mem_append] at hj
    rcases hj with hj | hj
    · exact .inl (h.seen j hj)
    · exact .inr hj
/-- Where the queue is empty, all is known. -/
theorem Front.done {ls : List (List Int)} {t : Int} {out done : List Int} (hin : ∀ k (hk : k < ls.length), ∀ x ∈ ls[k], 0 ≤ x ∧ x < (ls.length : Int)) (h : Front ls t out done []) : out = (upto ls.length).map (farI ls t) := by
  have hle : ∀ m : Nat, ∀ k : Nat, k < ls.length → Way ls t m k → 0 ≤ out.getD k (-1) ∧ out.getD k (-1) ≤ m := by
    intro m
    induction m with
    | zero =>
      intro k hk hw
      have : (k : Int) = t := hw
      have h1 := h.spread.self.2
      rw [← this, show ((k : Int)).toNat = k by omega] at h1
      rw [h1]; omega
    | succ m ih =>
      intro k hk hw
      obtain ⟨x, hx, hxw⟩ := hw
      rw [needsAt_get hk] at hx
      have hxr := hin k hk x hx
      have hxe : ((x.toNat : Nat) : Int) = x := by omega
      have h1 := ih x.toNat (by omega) (by rw [hxe]; exact hxw)
      have h2 : x ∈ done := by
        rcases h.spread.sound x.toNat (by omega) with h3 | h3
        · omega
        · have := h3.2.1; rw [hxe, List.append_nil] at this; exact this
      obtain ⟨h3, h4⟩ := h.closed x h2 k hk hx
      unfold at' at h4
      rw [show ((k : Int)).toNat = k by omega] at h4
      rcases h.spread.sound k hk with h5 | h5
      · exact absurd h3 h5.2
      · omega
  apply List.ext_getElem (by rw [h.spread.len, List.length_map, upto_len])
  intro k h1 h2
  have hk : k < ls.length := by rw [h.spread.len] at h1; exact h1
  rw [List.getElem_map, upto_get]
  symm
  apply farI_eq
  have hg : out.getD k (-1) = out[k] := by rw [List.getD_eq_getElem?_getD, List.getElem?_eq_getElem h1]; rfl
  rcases h.spread.sound k hk with h3 | h3
  · refine .inr ⟨by rw [← hg]; exact h3.1, fun m hw => ?_⟩
    have := hle m k hk hw
    omega
  · refine .inl ⟨(out.getD k (-1)).toNat, by rw [← hg]; omega, h3.2.2, fun j hj hw => ?_⟩
    have := hle j k hk hw
    omega
theorem Front.room {ls : List (List Int)} {t : Int} {out done queue : List Int} (h : Front ls t out done queue) : done.length + queue.length ≤ ls.length := by
  have := nodup_sub (a := done ++ queue) (b := upto ls.length) h.spread.nodup (fun x hx => mem_upto.2 (h.spread.range x hx))
  rw [upto_len, List.length_append] at this
  exact this
end Pth
end Go.Proofs.YtcfhfhpdnjaokaaGreatDoor

/- Walks: what blocks a task, and what goes into it, of the reference and of the program. -/
namespace Go.Proofs.YtcfhfhpdnjaokaaGreatDoor
open Go.RowKit Pth

/-- A plan and results of it. -/
noncomputable def bothA (ls : List (List Int)) (l : List Int) (bs : List Bool) (rs : List (List OpT)) (m : List ResT) : Bool := planA ls l bs rs && (resA m && decide (m.length = bs.length))
noncomputable def inA (ls : List (List Int)) (l : List Int) (bs : List Bool) (rs : List (List OpT)) (m : List ResT) (t : Int) : Bool := bothA ls l bs rs m && (decide (0 ≤ t) && decide (t < (bs.length : Int)))
/-- The result of a task. -/
def resAt (m : List ResT) (t : Int) : ResT := m.getD t.toNat noRes
/-- The first of some that is not well. -/
def firstL (m : List ResT) (ns : List Int) : Int × Bool := match ns.find? (fun k => decide ((resAt m k).2 ≠ 0)) with | some k => (k, true) | none => (0, false)
noncomputable def blockA (ls : List (List Int)) (l : List Int) (bs : List Bool) (rs : List (List OpT)) (m : List ResT) (t : Int) : Int × Bool :=
  if inA ls l bs rs m t && decide ((resAt m t).2 = 2) then firstL m (needsAt ls t) else (0, false)
/-- What goes into a task. -/
def bodiesL (m : List ResT) (ns : List Int) : List (List UInt8) := ns.map (fun k => (resAt m k).1)
noncomputable def insA (ls : List (List Int)) (l : List Int) (bs : List Bool) (rs : List (List OpT)) (m : List ResT) (t : Int) : List (List UInt8) :=
  if inA ls l bs rs m t then bodiesL m (needsAt ls t) else []
theorem both_parts {ls : List (List Int)} {l : List Int} {bs : List Bool} {rs : List (List OpT)} {m : List ResT} (h : bothA ls l bs rs m = true) : planA ls l bs rs = true ∧ resA m = true ∧ m.length = bs.length := by
  unfold bothA at h
  simp only [Bool.and_eq_true, decide_eq_true_eq] at h
  exact ⟨h.1, h.2.1, h.2.2⟩
theorem resAt_nat {m : List ResT} {k : Nat} (h : k < m.length) : resAt m (k : Int) = m[k] := by
  unfold resAt; rw [Int.toNat_natCast, getD_at _ h]
theorem first_yes {m : List ResT} {ns : List Int} {k : Nat} (hk : k < ns.length) (ho : ∀ x ∈ ns.take k, (resAt m x).2 = 0) (h : (resAt m ns[k]).2 ≠ 0) : firstL m ns = (ns[k], true) := by
  have e : ns = ns.take k ++ ns[k] :: ns.drop (k + 1) := by rw [← List.drop_eq_getElem_cons hk, List.take_append_drop]
  have hf : ns.find? (fun k => decide ((resAt m k).2 ≠ 0)) = some ns[k] := by
    conv => lhs; rw [e]
    rw [List.find?_append, List.find?_eq_none.2 (by intro x hx; simp [ho x hx]), List.find?_cons_of_pos (by simpa using h)]
    rfl
  unfold firstL; rw [hf]
theorem first_no {m : List ResT} {ns : List Int} (ho : ∀ x ∈ ns, (resAt m x).2 = 0) : firstL m ns = (0, false) := by
  unfold firstL; rw [List.find?_eq_none.2 (by intro x hx; simp [ho x hx])]
theorem bodies_next {m : List ResT} {ns : List Int} {k : Nat} (hk : k < ns.length) : bodiesL m (ns.take (k + 1)) = bodiesL m (ns.take k) ++ [(resAt m ns[k]).1] := by
  unfold bodiesL; rw [List.take_succ_eq_append_getElem hk, List.map_append]; rfl
theorem bodies_len (m : List ResT) (ns : List Int) : (bodiesL m ns).length = ns.length := by simp [bodiesL]
theorem take_zero {m : List ResT} {ns : List Int} {k : Nat} (hk : k < ns.length) (ho : ∀ x ∈ ns.take k, (resAt m x).2 = 0) (h : (resAt m ns[k]).2 = 0) : ∀ x ∈ ns.take (k + 1), (resAt m x).2 = 0 := by
  intro x hx
  rw [List.take_succ_eq_append_getElem hk, List.mem_append, List.mem_singleton] at hx
  rcases hx with hx | rfl
  · exact ho x hx
  · exact h
theorem plan_task {ls : List (List Int)} {l : List Int} {bs : List Bool} {rs : List (List OpT)} (h : planA ls l bs rs = true) {k : Nat} (hk : k < ls.length) : ls[k].length ≤ 10 ∧ ∀ x ∈ ls[k], 0 ≤ x ∧ x < (ls.length : Int) := by
  have hg := (plan_parts h).1
  have hw := (hg.each k hk).1
  refine ⟨?_, fun x hx => ?_⟩
  · have := rise_len hw.1 hw.2 (by have := hg.low; omega)
    have := hg.high
    omega
  · have := hw.2 x hx
    omega
/-- A number and whether it stands. -/
def NumOk (r : Int × Bool) (w : World) (e : Ending) (w' : World) : Prop := e = .returned (.tuple #[.int .i64 r.1, .bool r.2]) ∧ Below w.heap.size w w'
/-- Texts and whether they stand. -/
def TextsOk (l : List (List UInt8)) (ok : Bool) (w : World) (e : Ending) (w' : World) : Prop :=
  ∃ v, e = .returned (.tuple #[v, .bool ok]) ∧ w'.ownsRow w.heap.size 9 1 v l.length (S l) ∧ Below w.heap.size w w'

set_option maxRecDepth 20000 in
set_option maxHeartbeats 4000000 in
theorem specBoth_b {ls : List (List Int)} {l : List Int} {bs : List Bool} {rs : List (List OpT)} {m : List ResT} {b : Bool} (h : bothA ls l bs rs m = b) (v u : Value) (w : World) (hp : PlanV w v ls l bs rs) (hr : RowR w u m) (hx : ∀ l ∈ rs, ∀ f ∈ l, f.2.2.length ≤ maxLen) (hxm : ∀ f ∈ m, f.1.length ≤ maxLen) :
    Calls Tryz.prog 89 #[v, u] w (BoolPost b w) := by
  have HV := Lib.hid hp
  have HR := Lib.hid hr
  obtain ⟨nv, ov, sv, rv, rfl, h1, h2, h3, h4⟩ := hp
  obtain ⟨as0, cs, rfl, hs1, hs2, _⟩ := h3.boolsW
  obtain ⟨an, cn, rfl, hn1, hn2, hatn⟩ := h1.lists
  obtain ⟨ao, co, rfl, ho1, ho2, _⟩ := h2.ints
  obtain ⟨ar, cr, rfl, hr1, hr2, _⟩ := h4.lists
  obtain ⟨am, cm, rfl, hm1, hm2, hatm⟩ := hr.res
  clear h1 h2 h3 h4 hr hatn hatm
  unfold maxLen at hs2 hn2 ho2 hr2 hm2
  obtain ⟨wa, hwa⟩ : ∃ wa, wa = w.alloc (.cells #[.slice an ls.length cn, .slice ao l.length co, .slice as0 bs.length cs, .slice ar rs.length cr] 30) := ⟨_, rfl⟩
  have hsz : w.heap.size < wa.heap.size := by rw [hwa]; simp
  have P0 : Hid (Blk4 wa w.heap.size 30 (.slice an ls.length cn) (.slice ao l.length co) (.slice as0 bs.length cs) (.slice ar rs.length cr)) := by rw [hwa]; exact Blk4.new
  have HA : Hid (Below w.heap.size w wa) := by rw [hwa]; exact (Below.refl w.heap.size w).alloc (Nat.le_refl _) _
  have HWA := Lib.hid hwa
  obtain ⟨a, ha⟩ : ∃ a, planA ls l bs rs = a := ⟨_, rfl⟩
  obtain ⟨c, hc⟩ : ∃ c, resA m = c := ⟨_, rfl⟩
  obtain ⟨d, hd⟩ : ∃ d, decide (m.length = bs.length) = d := ⟨_, rfl⟩
  have HT : Hid (b = (a && (c && d))) := by rw [← h]; unfold bothA; rw [ha, hc, hd]; rfl
  have HC := Lib.hid (specPlan_b ha _ wa (HV.out.below HA.out) hx)
  have HCR := Lib.hid (fun W (hb : Below w.heap.size w W) => specResults_b hc _ W (HR.out.below hb) hxm)
  have eb : ((m.length : Int) == (bs.length : Int)) = d := by rw [← hd, Bool.eq_iff_iff]; simp; omega
  obtain ⟨c0, c1, c2, c3⟩ := P0.out.cells
  clear hwa h ha hc hd hx hxm
  go_enter Tryz.func89, Tryz.ntmps89
  go_wp2_with fail
  rw [← HWA.out]
  refine HC.out.mono ?_
  rintro e w1 ⟨rfl, hb1⟩
  have HB1 := Lib.hid hb1
  have HW1 := Lib.hid (bth HA.out hb1 (Nat.le_refl _))
  clear hb1 c0 c1 c2 c3 HC
  obtain ⟨c0, c1, c2, c3⟩ := (P0.out.below HB1.out hsz).cells
  rcases a with _ | _
  · go_wp2_with fail
    go_ret
    exact ⟨by rw [HT.out] <;> rfl, HW1.out⟩
  go_wp2_with fail
  refine (HCR.out w1 HW1.out).mono ?_
  rintro e w2 ⟨rfl, hb2⟩
  have HB2 := Lib.hid (bth HB1.out hb2 (Nat.le_refl _))
  have HW2 := Lib.hid (bth HW1.out hb2 (Nat.le_refl _))
  clear hb2 c0 c1 c2 c3
  obtain ⟨c0, c1, c2, c3⟩ := (P0.out.below HB2.out hsz).cells
  rcases c with _ | _
  · go_wp2_with fail
    go_ret
    exact ⟨by rw [HT.out] <;> rfl, HW2.out⟩
  · go_wp2_with fail
    go_ret
    exact ⟨by rw [HT.out] <;> rfl, HW2.out⟩

set_option maxRecDepth 20000 in
set_option maxHeartbeats 4000000 in
theorem implBoth_b {ls : List (List Int)} {l : List Int} {bs : List Bool} {rs : List (List OpT)} {m : List ResT} {b : Bool} (h : bothA ls l bs rs m = b) (v u : Value) (w : World) (hp : PlanV w v ls l bs rs) (hr : RowR w u m) (hx : ∀ l ∈ rs, ∀ f ∈ l, f.2.2.length ≤ maxLen) (hxm : ∀ f ∈ m, f.1.length ≤ maxLen) :
    Calls Tryz.prog 80 #[v, u] w (BoolPost b w) := by
  have HV := Lib.hid hp
  have HR := Lib.hid hr
  obtain ⟨nv, ov, sv, rv, rfl, h1, h2, h3, h4⟩ := hp
  obtain ⟨as0, cs, rfl, hs1, hs2, _⟩ := h3.boolsW
  obtain ⟨an, cn, rfl, hn1, hn2, hatn⟩ := h1.lists
  obtain ⟨ao, co, rfl, ho1, ho2, _⟩ := h2.ints
  obtain ⟨ar, cr, rfl, hr1, hr2, _⟩ := h4.lists
  obtain ⟨am, cm, rfl, hm1, hm2, hatm⟩ := hr.res
  clear h1 h2 h3 h4 hr hatn hatm
  unfold maxLen at hs2 hn2 ho2 hr2 hm2
  obtain ⟨wa, hwa⟩ : ∃ wa, wa = w.alloc (.cells #[.slice an ls.length cn, .slice ao l.length co, .slice as0 bs.length cs, .slice ar rs.length cr] 30) := ⟨_, rfl⟩
  have hsz : w.heap.size < wa.heap.size := by rw [hwa]; simp
  have P0 : Hid (Blk4 wa w.heap.size 30 (.slice an ls.length cn) (.slice ao l.length co) (.slice as0 bs.length cs) (.slice ar rs.length cr)) := by rw [hwa]; exact Blk4.new
  have HA : Hid (Below w.heap.size w wa) := by rw [hwa]; exact (Below.refl w.heap.size w).alloc (Nat.le_refl _) _
  have HWA := Lib.hid hwa
  obtain ⟨a, ha⟩ : ∃ a, planA ls l bs rs = a := ⟨_, rfl⟩
  obtain ⟨c, hc⟩ : ∃ c, resA m = c := ⟨_, rfl⟩
  obtain ⟨d, hd⟩ : ∃ d, decide (m.length = bs.length) = d := ⟨_, rfl⟩
  have HT : Hid (b = (a && (c && d))) := by rw [← h]; unfold bothA; rw [ha, hc, hd]; rfl
  have HC := Lib.hid (implPlan_b ha _ wa (HV.out.below HA.out) hx)
  have HCR := Lib.hid (fun W (hb : Below w.heap.size w W) => areRes_b hc _ W (HR.out.below hb) hxm)
  have eb : ((m.length : Int) == (bs.length : Int)) = d := by rw [← hd, Bool.eq_iff_iff]; simp; omega
  obtain ⟨c0, c1, c2, c3⟩ := P0.out.cells
  clear hwa h ha hc hd hx hxm
  go_enter Tryz.func80, Tryz.ntmps80
  go_wp2_with fail
  rw [← HWA.out]
  refine HC.out.mono ?_
  rintro e w1 ⟨rfl, hb1⟩
  have HB1 := Lib.hid hb1
  have HW1 := Lib.hid (bth HA.out hb1 (Nat.le_refl _))
  clear hb1 c0 c1 c2 c3 HC
  obtain ⟨c0, c1, c2, c3⟩ := (P0.out.below HB1.out hsz).cells
  rcases a with _ | _
  · go_wp2_with fail
    go_ret
    exact ⟨by rw [HT.out] <;> rfl, HW1.out⟩
  rcases d with _ | _
  · go_wp2_with fail
    go_ret
    exact ⟨by rw [HT.out] <;> (cases c <;> rfl), HW1.out⟩
  go_wp2_with fail
  refine (HCR.out w1 HW1.out).mono ?_
  rintro e w2 ⟨rfl, hb2⟩
  have HW2 := Lib.hid (bth HW1.out hb2 (Nat.le_refl _))
  clear hb2 c0 c1 c2 c3
  go_wp2_with fail
  go_ret
  exact ⟨by rw [HT.out] <;> (cases c <;> rfl), HW2.out⟩

theorem own_S2 {w : World} {B e : Nat} {v : Value} {l : List (List UInt8)} {x : List UInt8} (h : w.ownsRow B e 1 v (S l ++ [Value.string ⟨x.toArray⟩]).length (S l ++ [Value.string ⟨x.toArray⟩])) : w.ownsRow B e 1 v (l ++ [x]).length (S (l ++ [x])) := by
  rw [← S_len, S_append]; exact h

set_option maxRecDepth 20000 in
set_option maxHeartbeats 8000000 in
theorem first_any (ls : List (List Int)) (l : List Int) (bs : List Bool) (rs : List (List OpT)) (m : List ResT) (t : Nat) (v u : Value) (w : World) (hp : PlanV w v ls l bs rs) (hr : RowR w u m) (hpl : planA ls l bs rs = true) (hmb : m.length = bs.length) (ht : t < ls.length) :
    Calls Tryz.prog 83 #[v, u, .int .i64 (t : Int)] w (NumOk (firstL m ls[t]) w) := by
  have hbl := (plan_parts hpl).2.1
  have HV := Lib.hid hp
  have HR := Lib.hid hr
  obtain ⟨nv, ov, sv, rv, rfl, h1, h2, h3, h4⟩ := hp
  obtain ⟨as0, cs, rfl, hs1, hs2, _⟩ := h3.boolsW
  obtain ⟨an, cn, rfl, hn1, hn2, hatn⟩ := h1.lists
  obtain ⟨ao, co, rfl, ho1, ho2, _⟩ := h2.ints
  obtain ⟨ar, cr, rfl, hr1, hr2, _⟩ := h4.lists
  obtain ⟨am, cm, rfl, hm1, hm2, hatm⟩ := hr.res
  clear h1 h2 h3 h4 hr
  unfold maxLen at hs2 hn2 ho2 hr2 hm2
  obtain ⟨wa, hwa⟩ : ∃ wa, wa = w.alloc (.cells #[.slice an ls.length cn, .slice ao l.length co, .slice as0 bs.length cs, .slice ar rs.length cr] 30) := ⟨_, rfl⟩
  have hsz : w.heap.size < wa.heap.size := by rw [hwa]; simp
  have P0 : Hid (Blk4 wa w.heap.size 30 (.slice an ls.length cn) (.slice ao l.length co) (.slice as0 bs.length cs) (.slice ar rs.length cr)) := by rw [hwa]; exact Blk4.new
  have HA : Hid (Below w.heap.size w wa) := by rw [hwa]; exact (Below.refl w.heap.size w).alloc (Nat.le_refl _) _
  have HWA := Lib.hid hwa
  have hml : m.length = ls.length := by omega
  obtain ⟨gn, on, an2, cn2, rfl, hgn, hcn, hrn⟩ := hatn t ht
  obtain ⟨_, _, hev, hcl, hcm, hatk⟩ := hrn.ints
  injection hev with hea _ hec
  subst hea hec
  unfold maxLen at hcm
  have HATK := Lib.hid hatk
  have HATM := Lib.hid hatm
  obtain ⟨hl10, hin⟩ := plan_task hpl ht
  have HIN := Lib.hid hin
  have HML := Lib.hid hml
  have HNC : Hid (wa.cell? ⟨gn, on + t, none⟩ = some (.slice an2 ls[t].length cn2)) := (HA.out.cell (p := ⟨gn, on + t, none⟩) hgn).trans hcn
  have htz : (t : Int) < (ls.length : Int) := by omega
  obtain ⟨c0, c1, c2, c3⟩ := P0.out.cells
  clear hwa hatn hatm hatk hin hpl hrn hml hmb hbl
  go_enter Tryz.func83, Tryz.ntmps83
  go_wp2_with fail
  rw [← HWA.out]
  clear c0 c1 c2 c3 hcn
  go_loopw [17] (fun i wr => ∃ k : Nat, k ≤ ls[t].length ∧ i = .int .i64 k ∧ Hid (Below wa.heap.size wa wr) ∧ Hid (∀ x ∈ ls[t].take k, (resAt m x).2 = 0)) (fun i _ => ls[t].length - (intOf i).toNat)
  case atStart => exact ⟨0, Nat.zero_le _, rfl, Below.refl _ _, by simp [Hid]⟩
  case round =>
    obtain ⟨k, hk, rfl, HB, HO⟩ := hrel
    have HBW := Lib.hid (bth HA.out HB.out (Nat.le_refl _))
    by_cases hlt : k < ls[t].length
    · obtain ⟨g, o, rfl, hg, hcell0⟩ := HATK.out k hlt
      have hcell := (HBW.out.cell (p := ⟨g, o + k, none⟩) hg).trans hcell0
      obtain ⟨hx0, hx1⟩ := HIN.out _ (List.getElem_mem hlt)
      obtain ⟨y, hy⟩ : ∃ y : Nat, ls[t][k] = y := ⟨(ls[t][k]).toNat, by omega⟩
      have hym : y < m.length := by have := HML.out; omega
      obtain ⟨g2, o2, rfl, hg2, hm1', hm2'⟩ := HATM.out y hym
      have s1 := (HBW.out.cell (p := ⟨g2, o2 + y * 2, none⟩) hg2).trans hm1'
      have s2 := (HBW.out.cell (p := ⟨g2, o2 + y * 2 + 1, none⟩) hg2).trans hm2'
      have hra := resAt_nat hym
      have hyz : (y : Int) < (m.length : Int) := by omega
      by_cases hz : m[y].2 = 0
      · have HE : Hid (∀ x ∈ ls[t].take (k + 1), (resAt m x).2 = 0) := take_zero hlt HO.out (by rw [hy, hra]; exact hz)
        have e0 : (m[y].2 != 0) = false := by simp [hz]
        rw [hy] at hcell
        clear hcell0 hx0 hx1 hy hm1' hm2' HO hra hz HATK HATM HIN
        generalize m[y] = q at *
        obtain ⟨q1, q2⟩ := q
        simp only at s1 s2 e0
        obtain ⟨c0, c1, c2, c3⟩ := (P0.out.below HB.out hsz).cells
        go_wp2_with fail
        go_roundw
        case rel => exact ⟨k + 1, by omega, by go_num, HB, HE⟩
        case measure => simp [intOf]; omega
      · have HE : Hid (firstL m ls[t] = ((y : Int), true)) := by show _ = _; rw [first_yes hlt HO.out (by rw [hy, hra]; exact hz), hy]
        have e0 : (m[y].2 != 0) = true := by simp [hz]
        rw [hy] at hcell
        clear hcell0 hx0 hx1 hy hm1' hm2' HO hra hz HATK HATM HIN
        generalize m[y] = q at *
        obtain ⟨q1, q2⟩ := q
        simp only at s1 s2 e0
        obtain ⟨c0, c1, c2, c3⟩ := (P0.out.below HB.out hsz).cells
        go_wp2_with fail
        go_ret2
        exact ⟨by rw [HE.out] <;> rfl, HBW.out⟩
    · have HE : Hid (firstL m ls[t] = (0, false)) := first_no (by have := HO.out; rwa [List.take_of_length_le (by omega)] at this)
      clear HO HATK HATM HIN
      go_wp2_with fail
      go_ret2
      exact ⟨by rw [HE.out] <;> rfl, HBW.out⟩

end Go.Proofs.YtcfhfhpdnjaokaaGreatDoor

/- Walks: whether the bodies of sources are good, of the reference and of the program. -/
namespace Go.Proofs.YtcfhfhpdnjaokaaGreatDoor
open Go.RowKit Pth

def srcP (bs : List Bool) (ts : List (List UInt8)) (k : Nat) : Bool := decide ((ts.getD k []).length ≤ 40) && (bs.getD k false || decide (ts.getD k [] = []))
noncomputable def srcA (ls : List (List Int)) (l : List Int) (bs : List Bool) (rs : List (List OpT)) (ts : List (List UInt8)) : Bool :=
  planA ls l bs rs && (decide (ts.length = bs.length) && (List.range ts.length).all (srcP bs ts))
theorem srcP_at {bs : List Bool} {ts : List (List UInt8)} {k : Nat} (h1 : k < bs.length) (h2 : k < ts.length) : srcP bs ts k = (decide (ts[k].length ≤ 40) && (bs[k] || decide (ts[k] = []))) := by
  unfold srcP; rw [getD_at _ h1, getD_at _ h2]
theorem src_noP {ls : List (List Int)} {l : List Int} {bs : List Bool} {rs : List (List OpT)} {ts : List (List UInt8)} (h : planA ls l bs rs = false) : srcA ls l bs rs ts = false := by unfold srcA; rw [h]; rfl
theorem src_noL {ls : List (List Int)} {l : List Int} {bs : List Bool} {rs : List (List OpT)} {ts : List (List UInt8)} (h : ts.length ≠ bs.length) : srcA ls l bs rs ts = false := by unfold srcA; rw [decide_eq_false h]; simp
theorem src_bad {ls : List (List Int)} {l : List Int} {bs : List Bool} {rs : List (List OpT)} {ts : List (List UInt8)} {k : Nat} (hk : k < ts.length) (h : srcP bs ts k = false) : srcA ls l bs rs ts = false := by
  have : (List.range ts.length).all (srcP bs ts) = false := List.all_eq_false.2 ⟨k, by simpa using hk, by simp [h]⟩
  unfold srcA; rw [this]; simp
theorem src_next {bs : List Bool} {ts : List (List UInt8)} {k : Nat} (h : ∀ j, j < k → srcP bs ts j = true) (hp : srcP bs ts k = true) : ∀ j, j < k + 1 → srcP bs ts j = true := by
  intro j hj
  by_cases e : j = k
  · rw [e]; exact hp
  · exact h j (by omega)
theorem src_end {ls : List (List Int)} {l : List Int} {bs : List Bool} {rs : List (List OpT)} {ts : List (List UInt8)} {k : Nat} (hk : ts.length ≤ k) (hg : planA ls l bs rs = true) (h1 : ts.length = bs.length) (h : ∀ j, j < k → srcP bs ts j = true) : srcA ls l bs rs ts = true := by
  have : (List.range ts.length).all (srcP bs ts) = true := List.all_eq_true.2 (fun j hj => h j (by simp at hj; omega))
  unfold srcA; rw [hg, decide_eq_true h1, this]; rfl
theorem src_parts {ls : List (List Int)} {l : List Int} {bs : List Bool} {rs : List (List OpT)} {ts : List (List UInt8)} (h : srcA ls l bs rs ts = true) : planA ls l bs rs = true ∧ ts.length = bs.length ∧ ∀ k, k < ts.length → srcP bs ts k = true := by
  unfold srcA at h
  simp only [Bool.and_eq_true, decide_eq_true_eq, List.all_eq_true, List.mem_range] at h
  exact ⟨h.1, h.2.1, h.2.2⟩

set_option maxRecDepth 20000 in
set_option maxHeartbeats 8000000 in
theorem specSrc_any (ls : List (List Int)) (l : List Int) (bs : List Bool) (rs : List (List OpT)) (ts : List (List UInt8)) (v u : Value) (w : World) (hp : PlanV w v ls l bs rs) (hu : RowV w u (S ts)) (hx : ∀ l ∈ rs, ∀ f ∈ l, f.2.2.length ≤ maxLen) (hxt : ∀ x ∈ ts, x.length ≤ maxLen) :
    Calls Tryz.prog 73 #[v, u] w (BoolPost (srcA ls l bs rs ts) w) := by
  have HV := Lib.hid hp
  obtain ⟨nv, ov, sv, rv, rfl, h1, h2, h3, h4⟩ := hp
  obtain ⟨as0, cs, rfl, hs1, hs2, hats⟩ := h3.boolsW
  obtain ⟨an, cn, rfl, hn1, hn2, _⟩ := h1.lists
  obtain ⟨ao, co, rfl, ho1, ho2, _⟩ := h2.ints
  obtain ⟨ar, cr, rfl, hr1, hr2, _⟩ := h4.lists
  obtain ⟨at0, ct, rfl, ht1, ht2, hatt⟩ := hu.texts
  clear h1 h2 h3 h4 hu
  unfold maxLen at hs2 hn2 ho2 hr2 ht2
  obtain ⟨wa, hwa⟩ : ∃ wa, wa = w.alloc (.cells #[.slice an ls.length cn, .slice ao l.length co, .slice as0 bs.length cs, .slice ar rs.length cr] 30) := ⟨_, rfl⟩
  have hsz : w.heap.size < wa.heap.size := by rw [hwa]; simp
  have P0 : Hid (Blk4 wa w.heap.size 30 (.slice an ls.length cn) (.slice ao l.length co) (.slice as0 bs.length cs) (.slice ar rs.length cr)) := by rw [hwa]; exact Blk4.new
  have HA : Hid (Below w.heap.size w wa) := by rw [hwa]; exact (Below.refl w.heap.size w).alloc (Nat.le_refl _) _
  obtain ⟨G, hG⟩ : ∃ G, planA ls l bs rs = G := ⟨_, rfl⟩
  have HC := Lib.hid (specPlan_b hG _ wa (HV.out.below HA.out) hx)
  have HWA := Lib.hid hwa
  have HATS := Lib.hid hats
  have HATT := Lib.hid hatt
  have HXT := Lib.hid hxt
  obtain ⟨c0, c1, c2, c3⟩ := P0.out.cells
  clear hwa hats hatt hx hxt
  rcases G with _ | _
  · have HT : Hid (srcA ls l bs rs ts = false) := src_noP hG
    clear hG
    go_enter Tryz.func73, Tryz.ntmps73
    go_wp2_with fail
    rw [← HWA.out]
    refine HC.out.mono ?_
    rintro e w1 ⟨rfl, hb1⟩
    have HB1 := Lib.hid (bth HA.out hb1 (Nat.le_refl _))
    clear hb1 c0 c1 c2 c3
    go_wp2_with fail
    go_ret
    exact ⟨ret_bool HT.out.symm, HB1.out⟩
  by_cases hb : ts.length = bs.length
  · have eb : ((ts.length : Int) != (bs.length : Int)) = false := by simp [hb]
    have HGG := Lib.hid hG
    have HBL := Lib.hid hb
    have hb10 : bs.length ≤ 10 := by obtain ⟨g, h1, _⟩ := plan_parts hG; have := g.high; omega
    clear hG hb
    go_enter Tryz.func73, Tryz.ntmps73
    go_wp2_with fail
    rw [← HWA.out]
    refine HC.out.mono ?_
    rintro e w1 ⟨rfl, hb1⟩
    have HB1 := Lib.hid hb1
    clear hb1 c0 c1 c2 c3 HC
    obtain ⟨c0, c1, c2, c3⟩ := (P0.out.below HB1.out hsz).cells
    go_wp2_with fail
    clear c0 c1 c2 c3
    go_loopw [20] (fun i wr => ∃ k : Nat, k ≤ ts.length ∧ i = .int .i64 k ∧ Hid (Below wa.heap.size wa wr) ∧ Hid (∀ j, j < k → srcP bs ts j = true)) (fun i _ => ts.length - (intOf i).toNat)
    case atStart => exact ⟨0, Nat.zero_le _, rfl, HB1.out, fun j hj => by omega⟩
    case round =>
      clear HB1
      obtain ⟨k, hk, rfl, HB, HO⟩ := hrel
      have HBW := Lib.hid (bth HA.out HB.out (Nat.le_refl _))
      by_cases hlt : k < ts.length
      · have hkb : k < bs.length := by have := HBL.out; omega
        obtain ⟨gb, ob, rfl, hgb, hcb⟩ := HATS.out k hkb
        obtain ⟨gt, ot, rfl, hgt, hct⟩ := HATT.out k hlt
        have s1 := (HBW.out.cell (p := ⟨gb, ob + k, none⟩) hgb).trans hcb
        have s2 := (HBW.out.cell (p := ⟨gt, ot + k, none⟩) hgt).trans hct
        have hxl := HXT.out _ (List.getElem_mem hlt)
        obtain ⟨b2, hb2⟩ : ∃ b, decide (ts[k].length ≤ 40) = b := ⟨_, rfl⟩
        obtain ⟨b4, hb4⟩ : ∃ b, decide (ts[k] = []) = b := ⟨_, rfl⟩
        have e4 := nil_b hb4
        have e2 : decide ((ts[k].length : Int) > 40) = !b2 := by rw [← hb2, Bool.eq_iff_iff]; simp <;> omega
        have HCL := Lib.hid (fun W => longR_b hb2 W hxl)
        have HS : Hid (if b2 && (bs[k] || b4) then (∀ j, j < k + 1 → srcP bs ts j = true) else srcA ls l bs rs ts = false) := by
          have hPP : srcP bs ts k = (b2 && (bs[k] || b4)) := by rw [srcP_at hkb hlt, hb2, hb4]
          unfold Hid
          split
          · rename_i h; exact src_next HO.out (by rw [hPP]; exact h)
          · rename_i h; exact src_bad hlt (by rw [hPP]; simpa using h)
        have hki : (k : Int) < (bs.length : Int) := by omega
        obtain ⟨c0, c1, c2, c3⟩ := (P0.out.below HB.out hsz).cells
        clear hcb hct hb2 hb4 HATS HATT HXT HO
        generalize ts[k] = x at *
        generalize bs[k] = s at *
        unfold maxLen at hxl
        rcases b2 with _ | _
        · simp only [Bool.not_false] at e2
          go_wp2_with fail
          go_ret
          exact ⟨ret_bool (by have := HS.out; simpa using this.symm), HBW.out⟩
        · simp only [Bool.not_true] at e2
          rcases s with _ | _
          · rcases b4 with _ | _
            · go_wp2_with fail
              go_ret
              exact ⟨ret_bool (by have := HS.out; simpa using this.symm), HBW.out⟩
            · go_wp2_with fail
              go_roundw
              case rel => exact ⟨k + 1, by omega, by go_num, HB, by have := HS.out; simpa [Hid] using this⟩
              case measure => simp [intOf]; omega
          · clear e4
            go_wp2_with fail
            go_roundw
            case rel => exact ⟨k + 1, by omega, by go_num, HB, by have := HS.out; simpa [Hid] using this⟩
            case measure => simp [intOf]; omega
      · have HT : Hid (srcA ls l bs rs ts = true) := src_end (by omega) HGG.out HBL.out HO.out
        clear HO HATS HATT
        go_wp2_with fail
        go_ret
        exact ⟨ret_bool HT.out.symm, HBW.out⟩
  · have eb : ((ts.length : Int) != (bs.length : Int)) = true := by simp; omega
    have HT : Hid (srcA ls l bs rs ts = false) := src_noL hb
    clear hG hb
    go_enter Tryz.func73, Tryz.ntmps73
    go_wp2_with fail
    rw [← HWA.out]
    refine HC.out.mono ?_
    rintro e w1 ⟨rfl, hb1⟩
    have HB1 := Lib.hid (bth HA.out hb1 (Nat.le_refl _))
    obtain ⟨d0, d1, d2, d3⟩ := (P0.out.below hb1 hsz).cells
    clear hb1 c0 c1 c2 c3
    go_wp2_with fail
    go_ret
    exact ⟨ret_bool HT.out.symm, HB1.out⟩

set_option maxRecDepth 20000 in
set_option maxHeartbeats 8000000 in
theorem implSrc_any (ls : List (List Int)) (l : List Int) (bs : List Bool) (rs : List (List OpT)) (ts : List (List UInt8)) (v u : Value) (w : World) (hp : PlanV w v ls l bs rs) (hu : RowV w u (S ts)) (hx : ∀ l ∈ rs, ∀ f ∈ l, f.2.2.length ≤ maxLen) (hxt : ∀ x ∈ ts, x.length ≤ maxLen) :
    Calls Tryz.prog 20 #[v, u] w (BoolPost (srcA ls l bs rs ts) w) := by
  have HV := Lib.hid hp
  obtain ⟨nv, ov, sv, rv, rfl, h1, h2, h3, h4⟩ := hp
  obtain ⟨as0, cs, rfl, hs1, hs2, hats⟩ := h3.boolsW
  obtain ⟨an, cn, rfl, hn1, hn2, _⟩ := h1.lists
  obtain ⟨ao, co, rfl, ho1, ho2, _⟩ := h2.ints
  obtain ⟨ar, cr, rfl, hr1, hr2, _⟩ := h4.lists
  obtain ⟨at0, ct, rfl, ht1, ht2, hatt⟩ := hu.texts
  clear h1 h2 h3 h4 hu
  unfold maxLen at hs2 hn2 ho2 hr2 ht2
  obtain ⟨wa, hwa⟩ : ∃ wa, wa = w.alloc (.cells #[.slice an ls.length cn, .slice ao l.length co, .slice as0 bs.length cs, .slice ar rs.length cr] 30) := ⟨_, rfl⟩
  have hsz : w.heap.size < wa.heap.size := by rw [hwa]; simp
  have P0 : Hid (Blk4 wa w.heap.size 30 (.slice an ls.length cn) (.slice ao l.length co) (.slice as0 bs.length cs) (.slice ar rs.length cr)) := by rw [hwa]; exact Blk4.new
  have HA : Hid (Below w.heap.size w wa) := by rw [hwa]; exact (Below.refl w.heap.size w).alloc (Nat.le_refl _) _
  obtain ⟨G, hG⟩ : ∃ G, planA ls l bs rs = G := ⟨_, rfl⟩
  have HC := Lib.hid (implPlan_b hG _ wa (HV.out.below HA.out) hx)
  have HWA := Lib.hid hwa
  have HATS := Lib.hid hats
  have HATT := Lib.hid hatt
  have HXT := Lib.hid hxt
  obtain ⟨c0, c1, c2, c3⟩ := P0.out.cells
  clear hwa hats hatt hx hxt
  rcases G with _ | _
  · have HT : Hid (srcA ls l bs rs ts = false) := src_noP hG
    clear hG
    go_enter Tryz.func20, Tryz.ntmps20
    go_wp2_with fail
    rw [← HWA.out]
    refine HC.out.mono ?_
    rintro e w1 ⟨rfl, hb1⟩
    have HB1 := Lib.hid (bth HA.out hb1 (Nat.le_refl _))
    clear hb1 c0 c1 c2 c3
    go_wp2_with fail
    go_ret
    exact ⟨ret_bool HT.out.symm, HB1.out⟩
  by_cases hb : ts.length = bs.length
  · have eb : ((ts.length : Int) != (bs.length : Int)) = false := by simp [hb]
    have HGG := Lib.hid hG
    have HBL := Lib.hid hb
    have hb10 : bs.length ≤ 10 := by obtain ⟨g, h1, _⟩ := plan_parts hG; have := g.high; omega
    clear hG hb
    go_enter Tryz.func20, Tryz.ntmps20
    go_wp2_with fail
    rw [← HWA.out]
    refine HC.out.mono ?_
    rintro e w1 ⟨rfl, hb1⟩
    have HB1 := Lib.hid hb1
    clear hb1 c0 c1 c2 c3 HC
    obtain ⟨c0, c1, c2, c3⟩ := (P0.out.below HB1.out hsz).cells
    go_wp2_with fail
    clear c0 c1 c2 c3
    go_loopw [20] (fun i wr => ∃ k : Nat, k ≤ ts.length ∧ i = .int .i64 k ∧ Hid (Below wa.heap.size wa wr) ∧ Hid (∀ j, j < k → srcP bs ts j = true)) (fun i _ => ts.length - (intOf i).toNat)
    case atStart => exact ⟨0, Nat.zero_le _, rfl, HB1.out, fun j hj => by omega⟩
    case round =>
      clear HB1
      obtain ⟨k, hk, rfl, HB, HO⟩ := hrel
      have HBW := Lib.hid (bth HA.out HB.out (Nat.le_refl _))
      by_cases hlt : k < ts.length
      · have hkb : k < bs.length := by have := HBL.out; omega
        obtain ⟨gb, ob, rfl, hgb, hcb⟩ := HATS.out k hkb
        obtain ⟨gt, ot, rfl, hgt, hct⟩ := HATT.out k hlt
        have s1 := (HBW.out.cell (p := ⟨gb, ob + k, none⟩) hgb).trans hcb
        have s2 := (HBW.out.cell (p := ⟨gt, ot + k, none⟩) hgt).trans hct
        have hxl := HXT.out _ (List.getElem_mem hlt)
        obtain ⟨b2, hb2⟩ : ∃ b, decide (ts[k].length ≤ 40) = b := ⟨_, rfl⟩
        obtain ⟨b4, hb4⟩ : ∃ b, decide (ts[k] = []) = b := ⟨_, rfl⟩
        have e4 := nil_b hb4
        have e2 : decide ((ts[k].length : Int) > 40) = !b2 := by rw [← hb2, Bool.eq_iff_iff]; simp <;> omega
        have HCL := Lib.hid (fun W => longR_b hb2 W hxl)
        have HS : Hid (if b2 && (bs[k] || b4) then (∀ j, j < k + 1 → srcP bs ts j = true) else srcA ls l bs rs ts = false) := by
          have hPP : srcP bs ts k = (b2 && (bs[k] || b4)) := by rw [srcP_at hkb hlt, hb2, hb4]
          unfold Hid
          split
          · rename_i h; exact src_next HO.out (by rw [hPP]; exact h)
          · rename_i h; exact src_bad hlt (by rw [hPP]; simpa using h)
        have hki : (k : Int) < (bs.length : Int) := by omega
        obtain ⟨c0, c1, c2, c3⟩ := (P0.out.below HB.out hsz).cells
        clear hcb hct hb2 hb4 HATS HATT HXT HO
        generalize ts[k] = x at *
        generalize bs[k] = s at *
        unfold maxLen at hxl
        rcases b2 with _ | _
        · clear e2
          go_wp2_with fail
          refine (HCL.out wr).mono ?_
          rintro e w2 ⟨rfl, rfl⟩
          go_wp2_with fail
          go_ret
          exact ⟨ret_bool (by have := HS.out; simpa using this.symm), HBW.out⟩
        · clear e2
          rcases s with _ | _
          · rcases b4 with _ | _
            · go_wp2_with fail
              refine (HCL.out wr).mono ?_
              rintro e w2 ⟨rfl, rfl⟩
              go_wp2_with fail
              go_ret
              exact ⟨ret_bool (by have := HS.out; simpa using this.symm), HBW.out⟩
            · go_wp2_with fail
              refine (HCL.out wr).mono ?_
              rintro e w2 ⟨rfl, rfl⟩
              go_wp2_with fail
              go_roundw
              case rel => exact ⟨k + 1, by omega, by go_num, HB, by have := HS.out; simpa [Hid] using this⟩
              case measure => simp [intOf]; omega
          · clear e4
            go_wp2_with fail
            refine (HCL.out wr).mono ?_
            rintro e w2 ⟨rfl, rfl⟩
            go_wp2_with fail
            go_roundw
            case rel => exact ⟨k + 1, by omega, by go_num, HB, by have := HS.out; simpa [Hid] using this⟩
            case measure => simp [intOf]; omega
      · have HT : Hid (srcA ls l bs rs ts = true) := src_end (by omega) HGG.out HBL.out HO.out
        clear HO HATS HATT
        go_wp2_with fail
        go_ret
        exact ⟨ret_bool HT.out.symm, HBW.out⟩
  · have eb : ((ts.length : Int) != (bs.length : Int)) = true := by simp; omega
    have HT : Hid (srcA ls l bs rs ts = false) := src_noL hb
    clear hG hb
    go_enter Tryz.func20, Tryz.ntmps20
    go_wp2_with fail
    rw [← HWA.out]
    refine HC.out.mono ?_
    rintro e w1 ⟨rfl, hb1⟩
    have HB1 := Lib.hid (bth HA.out hb1 (Nat.le_refl _))
    obtain ⟨d0, d1, d2, d3⟩ := (P0.out.below hb1 hsz).cells
    clear hb1 c0 c1 c2 c3
    go_wp2_with fail
    go_ret
    exact ⟨ret_bool HT.out.symm, HB1.out⟩

end Go.Proofs.YtcfhfhpdnjaokaaGreatDoor
