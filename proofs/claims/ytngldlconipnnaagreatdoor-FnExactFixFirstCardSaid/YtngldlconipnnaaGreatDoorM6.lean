/- Texts of one claim, joined in their order. -/
import Derived.Test.YtngldlconipnnaaGreatDoorM5
import Derived.Test.YtngldlconipnnaaGreatDoorM1
import Derived.Test.YtngldlconipnnaaGreatDoorM2
import Derived.Test.YtngldlconipnnaaGreatDoorM4
import Derived.Test.YtngldlconipnnaaGreatDoorM3

/- Walks: whether a plan is good, of the program. -/
namespace Go.Proofs.YtngldlconipnnaaGreatDoor
open Go.RowKit Pth

set_option maxRecDepth 20000 in
set_option maxHeartbeats 8000000 in
theorem implPlan_any (ls : List (List Int)) (l : List Int) (bs : List Bool) (rs : List (List OpT)) (v : Value) (w : World) (hp : PlanV w v ls l bs rs) (hx : ∀ l ∈ rs, ∀ f ∈ l, f.2.2.length ≤ maxLen) :
    Calls Tryz.prog 64 #[v] w (BoolPost (planA ls l bs rs) w) := by
  obtain ⟨nv, ov, sv, rv, rfl, h1, h2, h3, h4⟩ := hp
  have H1 := Lib.hid h1
  have H2 := Lib.hid h2
  obtain ⟨as0, cs, rfl, hs1, hs2, hats⟩ := h3.boolsW
  obtain ⟨an, cn, rfl, hn1, hn2, hatn⟩ := h1.lists
  obtain ⟨ao, co, rfl, ho1, ho2, _⟩ := h2.ints
  obtain ⟨ar, cr, rfl, hr1, hr2, hatr⟩ := h4.lists
  clear h1 h2 h3 h4
  unfold maxLen at hs2 hn2 ho2 hr2
  obtain ⟨wa, hwa⟩ : ∃ wa, wa = w.alloc (.cells #[.slice an ls.length cn, .slice ao l.length co, .slice as0 bs.length cs, .slice ar rs.length cr] 30) := ⟨_, rfl⟩
  have hsz : w.heap.size < wa.heap.size := by rw [hwa]; simp
  have P0 : Hid (Blk4 wa w.heap.size 30 (.slice an ls.length cn) (.slice ao l.length co) (.slice as0 bs.length cs) (.slice ar rs.length cr)) := by rw [hwa]; exact Blk4.new
  have HA : Hid (Below w.heap.size w wa) := by rw [hwa]; exact (Below.refl w.heap.size w).alloc (Nat.le_refl _) _
  have HC := Lib.hid (implGood_any ls l (.agg #[.slice an ls.length cn, .slice ao l.length co]) wa ⟨_, _, rfl, H1.out.below HA.out, H2.out.below HA.out⟩)
  have HWA := Lib.hid hwa
  have HATS := Lib.hid hats
  have HATN := Lib.hid hatn
  have HATR := Lib.hid hatr
  have HX := Lib.hid hx
  obtain ⟨c0, c1, c2, c3⟩ := P0.out.cells
  clear hwa hats hatn hatr hx
  rcases hg : goodG ls l with _ | _
  · have HT : Hid (planA ls l bs rs = false) := plan_noG hg
    rw [hg] at HC
    clear hg
    go_enter Tryz.func64, Tryz.ntmps64
    go_wp2_with fail
    rw [← HWA.out]
    refine HC.out.mono ?_
    rintro e w1 ⟨rfl, hb1⟩
    have HB1 := Lib.hid (bth HA.out hb1 (Nat.le_refl _))
    clear hb1 c0 c1 c2 c3
    go_wp2_with fail
    go_ret
    exact ⟨ret_bool HT.out.symm, HB1.out⟩
  rw [hg] at HC
  by_cases hb : bs.length = ls.length
  · have eb : ((bs.length : Int) != (ls.length : Int)) = false := by simp [hb]
    by_cases hr : rs.length = ls.length
    · have er : ((rs.length : Int) != (ls.length : Int)) = false := by simp [hr]
      have HGG := Lib.hid hg
      have HBL := Lib.hid hb
      have HRL := Lib.hid hr
      have hgg := goodG_iff.1 hg
      have HLL : Hid (∀ k (hk : k < ls.length), ls[k].length ≤ 10) := fun k hk => by
        have hw := (hgg.each k hk).1
        have := rise_len hw.1 hw.2 (by have := hgg.low; omega)
        have := hgg.high
        omega
      have hhigh := hgg.high
      clear hg hgg hb hr
      go_enter Tryz.func64, Tryz.ntmps64
      go_wp2_with fail
      rw [← HWA.out]
      refine HC.out.mono ?_
      rintro e w1 ⟨rfl, hb1⟩
      have HB1 := Lib.hid hb1
      clear hb1 c0 c1 c2 c3 HC
      obtain ⟨c0, c1, c2, c3⟩ := (P0.out.below HB1.out hsz).cells
      go_wp2_with fail
      clear c0 c1 c2 c3
      go_loopw [33] (fun i wr => ∃ k : Nat, k ≤ ls.length ∧ i = .int .i64 k ∧ Hid (Below wa.heap.size wa wr) ∧ Hid (∀ j, j < k → planP ls bs rs j = true)) (fun i _ => ls.length - (intOf i).toNat)
      case atStart => exact ⟨0, Nat.zero_le _, rfl, HB1.out, fun j hj => by omega⟩
      case round =>
        clear HB1
        obtain ⟨k, hk, rfl, HB, HO⟩ := hrel
        have HBW := Lib.hid (bth HA.out HB.out (Nat.le_refl _))
        by_cases hlt : k < ls.length
        · have hkb : k < bs.length := by have := HBL.out; omega
          have hkr : k < rs.length := by have := HRL.out; omega
          obtain ⟨gn, on, an2, cn2, rfl, hgn, hcn, hrn⟩ := HATN.out k hlt
          obtain ⟨gb, ob, rfl, hgb, hcb⟩ := HATS.out k hkb
          obtain ⟨gr, or', ar2, cr2, rfl, hgr, hcr, hrr⟩ := HATR.out k hkr
          obtain ⟨_, _, hev, hcl, hcm, _⟩ := hrr.ops
          injection hev with hea _ hec
          subst hea hec
          obtain ⟨nr, hnr⟩ : ∃ n, rs[k].length = n := ⟨_, rfl⟩
          obtain ⟨nl, hnl⟩ : ∃ n, ls[k].length = n := ⟨_, rfl⟩
          obtain ⟨s, hs⟩ : ∃ s, bs[k] = s := ⟨_, rfl⟩
          have hrl : nr ≤ maxLen := by omega
          unfold maxLen at hrl
          have hl10 : nl ≤ 10 := by have := HLL.out k hlt; omega
          rw [hnl] at hcn
          rw [hnr] at hcr hrr
          rw [hs] at hcb
          have HNC : Hid (∀ W, Below w.heap.size w W → W.cell? ⟨gn, on + k, none⟩ = some (.slice an2 nl cn2)) := fun W h => (h.cell (p := ⟨gn, on + k, none⟩) hgn).trans hcn
          have HBC : Hid (∀ W, Below w.heap.size w W → W.cell? ⟨gb, ob + k, none⟩ = some (.bool s)) := fun W h => (h.cell (p := ⟨gb, ob + k, none⟩) hgb).trans hcb
          have HRC : Hid (∀ W, Below w.heap.size w W → W.cell? ⟨gr, or' + k, none⟩ = some (.slice ar2 nr cr2)) := fun W h => (h.cell (p := ⟨gr, or' + k, none⟩) hgr).trans hcr
          obtain ⟨b1, hb1⟩ : ∃ b, goodR rs[k] (nl : Int) = b := ⟨_, rfl⟩
          have HCR : Hid (∀ W, Below w.heap.size w W → Calls Tryz.prog 123 #[.slice ar2 nr cr2, .int .i64 (nl : Int)] W (BoolPost b1 W)) := fun W h => implGood_bR hb1 _ W (hrr.below h)
          have H8 : Hid (b1 = true → nr ≤ 8) := fun h => by rw [h] at hb1; have := (goodR_iff.1 hb1).2.2.1; omega
          have hPP : planP ls bs rs k = (b1 && !(s && decide (0 < nr + nl))) := by rw [planP_at hlt hkb hkr, hnl, hb1, hnr, hs]
          have hs1 := HNC.out wr HBW.out
          have hs2 := HBC.out wr HBW.out
          have hs3 := HRC.out wr HBW.out
          have hki : (k : Int) < (bs.length : Int) := by omega
          have hkj : (k : Int) < (rs.length : Int) := by omega
          obtain ⟨c0, c1, c2, c3⟩ := (P0.out.below HB.out hsz).cells
          clear hcn hcb hcr hrn hrr hb1 HATN HATS HATR HX H1 H2 hnr hnl hs hcl hcm
          by_cases hz : 0 < nr + nl
          · rw [decide_eq_true hz] at hPP
            have HS : Hid (if b1 && !s then (∀ j, j < k + 1 → planP ls bs rs j = true) else planA ls l bs rs = false) := by
              unfold Hid
              split
              · rename_i h; exact plan_next HO.out (by rw [hPP, Bool.and_true]; exact h)
              · rename_i h; exact plan_bad hlt (by rw [hPP, Bool.and_true]; simpa using h)
            clear hPP HO
            by_cases hn0 : nl = 0
            · subst hn0
              have q2 : ((nr : Int) == 0) = false := by simp; omega
              rcases s with _ | _
              · rcases b1 with _ | _
                · go_wp2_with fail
                  refine (HCR.out wr HBW.out).mono ?_
                  rintro e w2 ⟨rfl, hb2⟩
                  have HB2 := Lib.hid (bth HB.out hb2 (Nat.le_refl _))
                  have HBW2 := Lib.hid (bth HA.out HB2.out (Nat.le_refl _))
                  clear hb2 c0 c1 c2 c3 hs1 hs2 hs3
                  obtain ⟨c0, c1, c2, c3⟩ := (P0.out.below HB2.out hsz).cells
                  have hs1 := HNC.out w2 HBW2.out
                  have hs2 := HBC.out w2 HBW2.out
                  have hs3 := HRC.out w2 HBW2.out
                  go_wp2_with fail
                  go_ret
                  exact ⟨ret_bool (by have := HS.out; simp at this; simp [this]), HBW2.out⟩
                · go_wp2_with fail
                  refine (HCR.out wr HBW.out).mono ?_
                  rintro e w2 ⟨rfl, hb2⟩
                  have HB2 := Lib.hid (bth HB.out hb2 (Nat.le_refl _))
                  have HBW2 := Lib.hid (bth HA.out HB2.out (Nat.le_refl _))
                  clear hb2 c0 c1 c2 c3 hs1 hs2 hs3
                  obtain ⟨c0, c1, c2, c3⟩ := (P0.out.below HB2.out hsz).cells
                  have hs1 := HNC.out w2 HBW2.out
                  have hs2 := HBC.out w2 HBW2.out
                  have hs3 := HRC.out w2 HBW2.out
                  go_wp2_with fail
                  all_goals
                    go_roundw
                    case rel => exact ⟨k + 1, by omega, by go_num, HB2, by have := HS.out; simpa [Hid] using this⟩
                    case measure => simp [intOf]; omega
              · go_wp2_with fail
                go_ret
                exact ⟨ret_bool (by have := HS.out; simp at this; simp [this]), HBW.out⟩
            · have q1 : ((nl : Int) == 0) = false := by simpa using hn0
              rcases s with _ | _
              · rcases b1 with _ | _
                · go_wp2_with fail
                  refine (HCR.out wr HBW.out).mono ?_
                  rintro e w2 ⟨rfl, hb2⟩
                  have HB2 := Lib.hid (bth HB.out hb2 (Nat.le_refl _))
                  have HBW2 := Lib.hid (bth HA.out HB2.out (Nat.le_refl _))
                  clear hb2 c0 c1 c2 c3 hs1 hs2 hs3
                  obtain ⟨c0, c1, c2, c3⟩ := (P0.out.below HB2.out hsz).cells
                  have hs1 := HNC.out w2 HBW2.out
                  have hs2 := HBC.out w2 HBW2.out
                  have hs3 := HRC.out w2 HBW2.out
                  go_wp2_with fail
                  go_ret
                  exact ⟨ret_bool (by have := HS.out; simp at this; simp [this]), HBW2.out⟩
                · go_wp2_with fail
                  refine (HCR.out wr HBW.out).mono ?_
                  rintro e w2 ⟨rfl, hb2⟩
                  have HB2 := Lib.hid (bth HB.out hb2 (Nat.le_refl _))
                  have HBW2 := Lib.hid (bth HA.out HB2.out (Nat.le_refl _))
                  clear hb2 c0 c1 c2 c3 hs1 hs2 hs3
                  obtain ⟨c0, c1, c2, c3⟩ := (P0.out.below HB2.out hsz).cells
                  have hs1 := HNC.out w2 HBW2.out
                  have hs2 := HBC.out w2 HBW2.out
                  have hs3 := HRC.out w2 HBW2.out
                  go_wp2_with fail
                  all_goals
                    go_roundw
                    case rel => exact ⟨k + 1, by omega, by go_num, HB2, by have := HS.out; simpa [Hid] using this⟩
                    case measure => simp [intOf]; omega
              · go_wp2_with fail
                go_ret
                exact ⟨ret_bool (by have := HS.out; simp at this; simp [this]), HBW.out⟩
          · rw [decide_eq_false hz] at hPP
            have HS : Hid (if b1 then (∀ j, j < k + 1 → planP ls bs rs j = true) else planA ls l bs rs = false) := by
              unfold Hid
              split
              · rename_i h; exact plan_next HO.out (by rw [hPP, Bool.and_false, h]; rfl)
              · rename_i h; exact plan_bad hlt (by rw [hPP, Bool.and_false]; simpa using h)
            clear hPP HO
            obtain rfl : nr = 0 := by omega
            obtain rfl : nl = 0 := by omega
            clear hz
            rcases b1 with _ | _
            · rcases s with _ | _
              · go_wp2_with fail
                refine (HCR.out wr HBW.out).mono ?_
                rintro e w2 ⟨rfl, hb2⟩
                have HB2 := Lib.hid (bth HB.out hb2 (Nat.le_refl _))
                have HBW2 := Lib.hid (bth HA.out HB2.out (Nat.le_refl _))
                clear hb2 c0 c1 c2 c3 hs1 hs2 hs3
                obtain ⟨c0, c1, c2, c3⟩ := (P0.out.below HB2.out hsz).cells
                have hs1 := HNC.out w2 HBW2.out
                have hs2 := HBC.out w2 HBW2.out
                have hs3 := HRC.out w2 HBW2.out
                go_wp2_with fail
                go_ret
                exact ⟨ret_bool (by have := HS.out; simp at this; simp [this]), HBW2.out⟩
              · go_wp2_with fail
                refine (HCR.out wr HBW.out).mono ?_
                rintro e w2 ⟨rfl, hb2⟩
                have HB2 := Lib.hid (bth HB.out hb2 (Nat.le_refl _))
                have HBW2 := Lib.hid (bth HA.out HB2.out (Nat.le_refl _))
                clear hb2 c0 c1 c2 c3 hs1 hs2 hs3
                obtain ⟨c0, c1, c2, c3⟩ := (P0.out.below HB2.out hsz).cells
                have hs1 := HNC.out w2 HBW2.out
                have hs2 := HBC.out w2 HBW2.out
                have hs3 := HRC.out w2 HBW2.out
                go_wp2_with fail
                go_ret
                exact ⟨ret_bool (by have := HS.out; simp at this; simp [this]), HBW2.out⟩
            · rcases s with _ | _
              · go_wp2_with fail
                refine (HCR.out wr HBW.out).mono ?_
                rintro e w2 ⟨rfl, hb2⟩
                have HB2 := Lib.hid (bth HB.out hb2 (Nat.le_refl _))
                have HBW2 := Lib.hid (bth HA.out HB2.out (Nat.le_refl _))
                clear hb2 c0 c1 c2 c3 hs1 hs2 hs3
                obtain ⟨c0, c1, c2, c3⟩ := (P0.out.below HB2.out hsz).cells
                have hs1 := HNC.out w2 HBW2.out
                have hs2 := HBC.out w2 HBW2.out
                have hs3 := HRC.out w2 HBW2.out
                go_wp2_with fail
                all_goals
                  go_roundw
                  case rel => exact ⟨k + 1, by omega, by go_num, HB2, by have := HS.out; simpa [Hid] using this⟩
                  case measure => simp [intOf]; omega
              · go_wp2_with fail
                refine (HCR.out wr HBW.out).mono ?_
                rintro e w2 ⟨rfl, hb2⟩
                have HB2 := Lib.hid (bth HB.out hb2 (Nat.le_refl _))
                have HBW2 := Lib.hid (bth HA.out HB2.out (Nat.le_refl _))
                clear hb2 c0 c1 c2 c3 hs1 hs2 hs3
                obtain ⟨c0, c1, c2, c3⟩ := (P0.out.below HB2.out hsz).cells
                have hs1 := HNC.out w2 HBW2.out
                have hs2 := HBC.out w2 HBW2.out
                have hs3 := HRC.out w2 HBW2.out
                go_wp2_with fail
                all_goals
                  go_roundw
                  case rel => exact ⟨k + 1, by omega, by go_num, HB2, by have := HS.out; simpa [Hid] using this⟩
                  case measure => simp [intOf]; omega
        · have HT : Hid (planA ls l bs rs = true) := plan_end (by omega) HGG.out HBL.out HRL.out HO.out
          have hnk : ¬ (k : Int) < (rs.length : Int) := by have := HRL.out; omega
          clear HO HATN HATS HATR
          go_wp2_with fail
          go_ret
          exact ⟨ret_bool HT.out.symm, HBW.out⟩
    · have er : ((rs.length : Int) != (ls.length : Int)) = true := by simp; omega
      have HT : Hid (planA ls l bs rs = false) := plan_noR hr
      clear hg hb hr
      go_enter Tryz.func64, Tryz.ntmps64
      go_wp2_with fail
      rw [← HWA.out]
      refine HC.out.mono ?_
      rintro e w1 ⟨rfl, hb1⟩
      have HB1 := Lib.hid (bth HA.out hb1 (Nat.le_refl _))
      obtain ⟨d0, d1, d2, d3⟩ := (P0.out.below hb1 hsz).cells
      clear hb1 c0 c1 c2 c3
      go_wp2_with fail
      go_ret
      exact ⟨ret_bool HT.out.symm, HB1.out⟩
  · have eb : ((bs.length : Int) != (ls.length : Int)) = true := by simp; omega
    have HT : Hid (planA ls l bs rs = false) := plan_noB hb
    clear hg hb
    go_enter Tryz.func64, Tryz.ntmps64
    go_wp2_with fail
    rw [← HWA.out]
    refine HC.out.mono ?_
    rintro e w1 ⟨rfl, hb1⟩
    have HB1 := Lib.hid (bth HA.out hb1 (Nat.le_refl _))
    obtain ⟨d0, d1, d2, d3⟩ := (P0.out.below hb1 hsz).cells
    clear hb1 c0 c1 c2 c3
    go_wp2_with fail
    go_ret
    exact ⟨ret_bool HT.out.symm, HB1.out⟩
theorem implPlan_b {ls : List (List Int)} {l : List Int} {bs : List Bool} {rs : List (List OpT)} {b : Bool} (h : planA ls l bs rs = b) (v : Value) (w : World) (hp : PlanV w v ls l bs rs) (hx : ∀ l ∈ rs, ∀ f ∈ l, f.2.2.length ≤ maxLen) : Calls Tryz.prog 64 #[v] w (BoolPost b w) := by
  have := implPlan_any ls l bs rs v w hp hx; rwa [h] at this

end Go.Proofs.YtngldlconipnnaaGreatDoor

/- Results as cells; lists of results, wherever they lie; the laws' helpers on one result. -/
namespace Go.Proofs.YtngldlconipnnaaGreatDoor
open Go.RowKit Pth

abbrev ResT := List UInt8 × Int
def resC (o : ResT) : List Value := [.string ⟨o.1.toArray⟩, .int .i64 o.2]
def resV (o : ResT) : Value := .agg #[.string ⟨o.1.toArray⟩, .int .i64 o.2]
def RC (l : List ResT) : List Value := l.flatMap resC
theorem RC_cons (f : ResT) (l : List ResT) : RC (f :: l) = .string ⟨f.1.toArray⟩ :: .int .i64 f.2 :: RC l := rfl
theorem RC_len (l : List ResT) : (RC l).length = l.length * 2 := by
  induction l with
  | nil => rfl
  | cons f t ih => rw [RC_cons]; simp only [List.length_cons]; omega
theorem RC_append (a b : List ResT) : RC (a ++ b) = RC a ++ RC b := by simp [RC]
theorem RC_one (l : List ResT) : ∀ u ∈ RC l, u.oneCell' = true := by
  intro u hu
  simp only [RC, List.mem_flatMap, resC, List.mem_cons, List.not_mem_nil, or_false] at hu
  obtain ⟨f, _, h | h⟩ := hu <;> (rw [h]; rfl)
theorem RC_drop (l : List ResT) (k : Nat) : (RC l).drop (k * 2) = RC (l.drop k) := by
  by_cases hk : k ≤ l.length
  · have e : RC l = RC (l.take k) ++ RC (l.drop k) := by rw [← RC_append, List.take_append_drop]
    have hl : (RC (l.take k)).length = k * 2 := by rw [RC_len, List.length_take]; omega
    rw [e, ← hl, List.drop_left]
  · rw [List.drop_of_length_le (by rw [RC_len]; omega), List.drop_of_length_le (by omega)]; rfl
theorem RC_at {l : List ResT} {k : Nat} (hk : k < l.length) :
    (RC l)[k * 2]? = some (.string ⟨(l[k]).1.toArray⟩) ∧ (RC l)[k * 2 + 1]? = some (.int .i64 l[k].2) := by
  have h1 : (RC l).drop (k * 2) = RC (l.drop k) := RC_drop l k
  rw [List.drop_eq_getElem_cons hk] at h1
  have g : ∀ j : Nat, ((RC l).drop (k * 2))[j]? = (RC (l[k] :: l.drop (k + 1)))[j]? := fun j => by rw [h1]
  refine ⟨?_, ?_⟩
  · have := g 0; rw [List.getElem?_drop] at this; exact this
  · have := g 1; rw [List.getElem?_drop] at this; exact this

/-- A slice that reads as results. -/
def RowR (w : World) (v : Value) (l : List ResT) : Prop := RowG 2 w v l.length (RC l)
theorem RowR.res {w : World} {v : Value} {l : List ResT} (h : RowR w v l) :
    ∃ a c, v = .slice a l.length c ∧ l.length ≤ c ∧ c ≤ maxLen ∧ ∀ k (hk : k < l.length), ∃ g o, a = some ⟨g, o, none⟩ ∧ g < w.heap.size ∧ w.cell? ⟨g, o + k * 2, none⟩ = some (.string ⟨(l[k]).1.toArray⟩) ∧ w.cell? ⟨g, o + k * 2 + 1, none⟩ = some (.int .i64 l[k].2) := by
  obtain ⟨a, c, hv, h0, h1, h2, hat⟩ := h
  refine ⟨a, c, hv, h1, h2, fun k hk => ?_⟩
  obtain ⟨q0, q1⟩ := RC_at hk
  obtain ⟨g, o, ha, hg, hc⟩ := hat (k * 2) (by rw [RC_len]; omega)
  obtain ⟨g', o', ha', _, hc'⟩ := hat (k * 2 + 1) (by rw [RC_len]; omega)
  rw [ha] at ha'
  obtain ⟨rfl, rfl⟩ := addr_inj ha'
  rw [List.getElem?_eq_getElem (by rw [RC_len]; omega)] at q0 q1
  refine ⟨g, o, ha, hg, hc.trans q0, ?_⟩
  rw [Nat.add_assoc]; exact hc'.trans q1
theorem RowR.of_own {w : World} {B e : Nat} {v : Value} {l : List ResT} (h : w.ownsRow B e 2 v l.length (RC l)) : RowR w v l := RowG.of_own h
theorem RowR.below {w w' : World} {v : Value} {l : List ResT} (h : RowR w v l) (hb : Below w.heap.size w w') : RowR w' v l := RowG.below h hb

theorem elemR : ElemG 35 89 (.agg #[.string ByteArray.empty, .int .i64 0]) 2 24 := ⟨Tryz.underlying35, by kernel_rfl, rfl, by decide, by decide⟩

set_option maxHeartbeats 1000000 in
theorem szResult_any (o : ResT) (left : Nat) (w : World) (hx : o.1.length ≤ maxLen) (hl : left ≤ 2000000) :
    Calls Tryz.prog 74 #[resV o, .int .i64 (left : Int)] w fun e w' => ∃ r : Int, e = .returned (.int .i64 r) ∧ r ≤ left ∧ (0 ≤ r → r + o.1.length = left) ∧ Below w.heap.size w w' := by
  obtain ⟨t, n⟩ := o
  unfold resV
  simp only at hx ⊢
  unfold maxLen at hx
  have HB := Lib.hid ((Below.refl w.heap.size w).alloc (Nat.le_refl _) (.cells #[.string ⟨t.toArray⟩, .int .i64 n] 108))
  by_cases h1 : t.length ≤ left
  · have d1 : decide ((left : Int) - (t.length : Int) < 0) = false := by simp; omega
    go_enter Tryz.func74, Tryz.ntmps74
    go_wp2_with fail
    go_ret
    exact ⟨_, rfl, by omega, fun _ => by omega, HB.out⟩
  · have d1 : decide ((left : Int) - (t.length : Int) < 0) = true := by simp; omega
    go_enter Tryz.func74, Tryz.ntmps74
    go_wp2_with fail
    go_ret
    exact ⟨-1, rfl, by omega, fun h => by omega, HB.out⟩

theorem results_cellR {fn : Func} {p : Tmp} {ty : TypeId} (h : fn.results = #[.cell p ty]) {tmps : Array Value} {w : World} {ad : Addr} {v : Value} (hp : tmps.getD p undef = .pointer (some ad)) (hl : (loadVar ty ad).run Tryz.prog w = .ok v w) :
    (results fn tmps).run Tryz.prog w = .ok v w := by
  have hp' : tmps[p]?.getD undef = .pointer (some ad) := by simpa using hp
  simp only [results, h]
  simp [hp', asAddr, hl]
theorem load_res {w : World} {b : Nat} {x y : Value} (h0 : w.cell? ⟨b, 0, none⟩ = some x) (h1 : w.cell? ⟨b, 1, none⟩ = some y) : (loadVar 89 ⟨b, 0, none⟩).run Tryz.prog w = .ok (.agg #[x, y]) w := by
  go_simp

set_option maxHeartbeats 1000000 in
theorem toResult_any (o : ResT) (w : World) :
    Calls Tryz.prog 83 #[resV o] w fun e w' => e = .returned (resV o) ∧ Below w.heap.size w w' := by
  obtain ⟨t, n⟩ := o
  unfold resV
  simp only
  go_enter Tryz.func83, Tryz.ntmps83
  go_wp2_with fail
  refine bodyPost_ret (results_cellR rfl rfl (load_res (x := .string ⟨t.toArray⟩) (y := .int .i64 n) (by go_simp) (by go_simp))) rfl ?_
  exact ⟨rfl, (((Below.refl w.heap.size w).alloc (Nat.le_refl _) _).alloc (by simp) _).alloc (by simp; omega) _⟩

set_option maxHeartbeats 1000000 in
theorem eqResult_b {o p : ResT} {b : Bool} (h : decide (o = p) = b) (w : World) :
    Calls Tryz.prog 89 #[resV o, resV p] w fun e w' => e = .returned (.bool b) ∧ Below w.heap.size w w' := by
  obtain ⟨t, n⟩ := o
  obtain ⟨t', n'⟩ := p
  have HT := Lib.hid h
  unfold resV
  simp only
  have HB := Lib.hid (((Below.refl w.heap.size w).alloc (Nat.le_refl _) (.cells #[.string ⟨t.toArray⟩, .int .i64 n] 89)).alloc (by simp) (.cells #[.string ⟨t'.toArray⟩, .int .i64 n'] 89))
  clear h
  by_cases h3 : t = t'
  · have d3 : (!(t == t')) = false := by simp [h3]
    by_cases h2 : n = n'
    · have d2 : (n != n') = false := by simp [h2]
      have HE : Hid (b = true) := by have := HT.out; rw [h2, h3] at this; simpa [Hid] using this.symm
      clear h2 h3 HT
      go_enter Tryz.func89, Tryz.ntmps89
      go_wp2_with fail
      go_ret
      exact ⟨by rw [HE.out] <;> rfl, HB.out⟩
    · have d2 : (n != n') = true := by simp [h2]
      have HE : Hid (b = false) := by rw [← HT.out]; exact decide_eq_false (fun h => h2 (by injection h))
      clear h2 h3 HT
      go_enter Tryz.func89, Tryz.ntmps89
      go_wp2_with fail
      go_ret
      exact ⟨by rw [HE.out] <;> rfl, HB.out⟩
  · have d3 : (!(t == t')) = true := by simp [h3]
    have HE : Hid (b = false) := by rw [← HT.out]; exact decide_eq_false (fun h => h3 (by injection h))
    clear h3 HT
    go_enter Tryz.func89, Tryz.ntmps89
    go_wp2_with fail
    go_ret
    exact ⟨by rw [HE.out] <;> rfl, HB.out⟩

end Go.Proofs.YtngldlconipnnaaGreatDoor

/- Walks: the laws' helpers on lists of results: how much they hold, copies, whether they are the same. -/
namespace Go.Proofs.YtngldlconipnnaaGreatDoor
open Go.RowKit Pth

def noRes : ResT := ([], 0)
/-- Results are handed back, in memory of the call's own. -/
def ResPost (l : List ResT) (w : World) (e : Ending) (w' : World) : Prop :=
  ∃ v, e = .returned v ∧ w'.ownsRow w.heap.size 89 2 v l.length (RC l) ∧ Below w.heap.size w w'
theorem RC_zero (n : Nat) : RC (List.replicate n noRes) = (madeCells #[.string ByteArray.empty, .int .i64 0] (n * 2)).toList := by
  apply List.ext_getElem?
  intro j
  by_cases hj : j < n * 2
  · have hd : j / 2 < n := by omega
    obtain ⟨q0, q1⟩ := RC_at (l := List.replicate n noRes) (k := j / 2) (by simpa using hd)
    have hm : j % 2 = 0 ∨ j % 2 = 1 := by omega
    rcases hm with h | h
    · rw [show j = j / 2 * 2 by omega, q0]
      simp [madeCells, noRes, hd]; rfl
    · rw [show j = j / 2 * 2 + 1 by omega, q1]
      have e : (j / 2 * 2 + 1) % 2 = 1 := by omega
      have e2 : j / 2 * 2 + 1 < n * 2 := by omega
      simp [madeCells, noRes, e, e2]
  · rw [List.getElem?_eq_none (by rw [RC_len]; simp; omega)]
    simp [madeCells, hj]
theorem make_rowR (n : Nat) (w : World) (hn : n ≤ 2000000) :
    ∃ w', (Instr.makeSlice 35 (.int .i64 (n : Int)) (.int .i64 (n : Int))).run Tryz.prog w = .ok (.slice (some ⟨w.heap.size, 0, none⟩) n n) w' ∧
      w'.ownsRow w.heap.size 89 2 (.slice (some ⟨w.heap.size, 0, none⟩) n n) n (RC (List.replicate n noRes)) ∧ Below w.heap.size w w' := by
  obtain ⟨i0, hi, hz0, hz1, hz2⟩ := info_parts elemR.info
  obtain ⟨w', h1, h2, h3⟩ := run_makeSlice_full (P := Tryz.prog) w w.heap.size _ _ i0 _ 2 elemR.under hi hz0 hz1 .i64 .i64 n (by omega) (by rw [hz2]; exact Nat.le_trans (Nat.mul_le_mul elemR.small hn) (by decide)) (by unfold maxLen; omega) (Nat.le_refl _)
  rw [RC_zero]
  exact ⟨w', h1, h2, (Below.refl _ w).grown h3 (Nat.le_refl _) (fun k hk => by cases hk)⟩
theorem set_two (a : List ResT) (k : Nat) (ha : a.length = k) (p : ResT) (rest : List ResT) (x : ResT) :
    ((RC a ++ RC (p :: rest)).set (k * 2) (.string ⟨x.1.toArray⟩)).set (k * 2 + 1) (.int .i64 x.2) = RC (a ++ [x]) ++ RC rest := by
  have hl : (RC a).length = k * 2 := by rw [RC_len, ha]
  rw [List.set_append_right _ _ (by omega), hl, Nat.sub_self, List.set_append_right _ _ (by omega), hl, show k * 2 + 1 - k * 2 = 1 by omega, RC_append]
  simp [RC, resC]
theorem get_two (a : List ResT) (k : Nat) (ha : a.length = k) (p : ResT) (rest : List ResT) :
    (RC a ++ RC (p :: rest))[k * 2]? = some (.string ⟨p.1.toArray⟩) ∧ (RC a ++ RC (p :: rest))[k * 2 + 1]? = some (.int .i64 p.2) := by
  have hl : (RC a).length = k * 2 := by rw [RC_len, ha]
  rw [List.getElem?_append_right (by omega), hl, Nat.sub_self, List.getElem?_append_right (by omega), hl, show k * 2 + 1 - k * 2 = 1 by omega]
  exact ⟨rfl, rfl⟩

set_option maxRecDepth 20000 in
set_option maxHeartbeats 1000000 in
theorem szResultS_any (l : List ResT) (left : Nat) (v : Value) (w : World) (hrow : RowR w v l) (hx : ∀ f ∈ l, f.1.length ≤ maxLen) (hl : left ≤ 2000000) :
    Calls Tryz.prog 21 #[v, .int .i64 (left : Int)] w fun e w' => ∃ r : Int, e = .returned (.int .i64 r) ∧ r ≤ left ∧ (0 ≤ r → r + l.length ≤ left ∧ ∀ f ∈ l, f.1.length ≤ left) ∧ Below w.heap.size w w' := by
  obtain ⟨a, cap, rfl, hc1, hc2, hat⟩ := hrow.res
  clear hrow
  unfold maxLen at hc2
  by_cases hlen : l.length ≤ left
  · have hlen1 : decide ((left : Int) - (l.length : Int) < 0) = false := by simp; omega
    go_enter Tryz.func21, Tryz.ntmps21
    go_wp2_with fail
    go_loopw [1, 5] (fun q i wr => ∃ (k r : Nat), k ≤ l.length ∧ r + l.length ≤ left ∧ q = .int .i64 r ∧ i = .int .i64 k ∧ Hid (∀ f ∈ l.take k, f.1.length ≤ left) ∧ Hid (Below w.heap.size w wr)) (fun _ i _ => l.length - (intOf i).toNat)
    case atStart => exact ⟨0, left - l.length, Nat.zero_le _, by omega, by go_num, rfl, by simp [Hid], Below.refl _ _⟩
    case round =>
      obtain ⟨k, r, hk, hr1, rfl, rfl, HO, HB⟩ := hrel
      by_cases hlt : k < l.length
      · obtain ⟨g, o, rfl, hg, hcell1, hcell2⟩ := hat k hlt
        have s1 := (HB.out.cell (p := ⟨g, o + k * 2, none⟩) hg).trans hcell1
        have s2 := (HB.out.cell (p := ⟨g, o + k * 2 + 1, none⟩) hg).trans hcell2
        have hxl := hx l[k] (List.getElem_mem hlt)
        have HC := Lib.hid (szResult_any l[k] r wr hxl (by omega))
        have HS : Hid (l[k].1.length ≤ left → ∀ f ∈ l.take (k + 1), f.1.length ≤ left) := by
          intro h1 f hf
          rw [List.take_succ_eq_append_getElem hlt, List.mem_append, List.mem_singleton] at hf
          rcases hf with h | h
          · exact HO.out f h
          · rw [h]; exact h1
        clear hcell1 hcell2 hat HO hx hxl
        generalize l[k] = x at s1 s2 HC HS
        obtain ⟨x1, x2⟩ := x
        unfold resV at HC
        simp only at s1 s2 HC HS
        go_wp2_with fail
        refine HC.out.mono ?_
        rintro e w1 ⟨r1, rfl, hle, hif, hb1⟩
        have HB1 := Lib.hid (HB.out.trans (hb1.mono HB.out.size))
        clear hb1 HC
        by_cases h0 : 0 ≤ r1
        · obtain ⟨r2, rfl⟩ : ∃ r2 : Nat, r1 = r2 := ⟨r1.toNat, by omega⟩
          have hd : decide ((r2 : Int) < 0) = false := decide_eq_false (by omega)
          have HS2 := Lib.hid (HS.out (by have := (hif h0); omega))
          clear HS hif
          go_wp2_with fail
          go_roundw
          case rel => exact ⟨k + 1, r2, by omega, by omega, rfl, by go_num, HS2, HB1⟩
          case measure => simp [intOf]; omega
        · have hd : decide (r1 < 0) = true := decide_eq_true (by omega)
          clear HS hif
          go_wp2_with fail
          go_ret
          exact ⟨-1, rfl, by omega, fun h => by omega, HB1.out⟩
      · have HS : Hid (∀ f ∈ l, f.1.length ≤ left) := by have := HO.out; rw [List.take_of_length_le (by omega)] at this; exact this
        clear hat HO hx
        go_wp2_with fail
        go_ret
        exact ⟨r, rfl, by omega, fun _ => ⟨by omega, HS.out⟩, HB.out⟩
  · have hlen1 : decide ((left : Int) - (l.length : Int) < 0) = true := by simp; omega
    clear hat hx
    go_enter Tryz.func21, Tryz.ntmps21
    go_wp2_with fail
    go_ret
    exact ⟨-1, rfl, by omega, fun h => by omega, Below.refl _ _⟩

set_option maxRecDepth 20000 in
set_option maxHeartbeats 1000000 in
theorem toResultS_any (l : List ResT) (v : Value) (w : World) (hrow : RowR w v l) (hl : l.length ≤ 2000000) :
    Calls Tryz.prog 25 #[v] w (ResPost l w) := by
  obtain ⟨a, cap, rfl, hc1, hc2, hat⟩ := hrow.res
  clear hrow
  unfold maxLen at hc2
  obtain ⟨w0, hmk, hown0, hb0⟩ := make_rowR l.length w hl
  have HN0 := Lib.hid hown0
  have HB0 := Lib.hid hb0
  clear hown0 hb0
  go_enter Tryz.func25, Tryz.ntmps25
  go_wp2_with fail
  clear hmk
  go_loopw [4] (fun i wr => ∃ k : Nat, k ≤ l.length ∧ i = .int .i64 k ∧ Hid (wr.ownsRow w.heap.size 89 2 (.slice (some ⟨w.heap.size, 0, none⟩) l.length l.length) l.length (RC (l.take k) ++ RC (List.replicate (l.length - k) noRes))) ∧ Hid (Below w.heap.size w wr)) (fun i _ => l.length - (intOf i).toNat)
  case atStart => exact ⟨0, Nat.zero_le _, rfl, HN0, HB0⟩
  case round =>
    clear HN0 HB0
    obtain ⟨k, hk, rfl, HN, HB⟩ := hrel
    have hbs := HB.out.size
    by_cases hlt : k < l.length
    · obtain ⟨g, o, rfl, hg, hcell1, hcell2⟩ := hat k hlt
      have s1 := (HB.out.cell (p := ⟨g, o + k * 2, none⟩) hg).trans hcell1
      have s2 := (HB.out.cell (p := ⟨g, o + k * 2 + 1, none⟩) hg).trans hcell2
      have HC := Lib.hid (fun W => toResult_any l[k] W)
      have ht : (l.take k).length = k := by rw [List.length_take]; omega
      have er : List.replicate (l.length - k) noRes = noRes :: List.replicate (l.length - (k + 1)) noRes := by rw [show l.length - k = (l.length - (k + 1)) + 1 by omega, List.replicate_succ]
      rw [er] at HN
      have HE := Lib.hid (set_two (l.take k) k ht noRes (List.replicate (l.length - (k + 1)) noRes) l[k])
      have HE2 := Lib.hid (get_two (l.take k) k ht noRes (List.replicate (l.length - (k + 1)) noRes))
      have HT : Hid (l.take k ++ [l[k]] = l.take (k + 1)) := (List.take_succ_eq_append_getElem hlt).symm
      rw [HT.out] at HE
      clear hcell1 hcell2 hat HT er ht
      generalize l[k] = x at s1 s2 HC HE
      obtain ⟨x1, x2⟩ := x
      unfold resV at HC
      simp only at s1 s2 HC HE
      go_wp2_with fail
      refine (HC.out _).mono ?_
      rintro e w1 ⟨rfl, hb1⟩
      have HN1 := Lib.hid (own_belowG HN.out hb1)
      have HB1 := Lib.hid (HB.out.trans (hb1.mono HB.out.size))
      have hfz := HN1.out.frozenAt (k * 2)
      have hfz2 := HN1.out.frozenAt (k * 2 + 1)
      have hcz : w1.cell? ⟨w.heap.size, k * 2, none⟩ = some (.string ByteArray.empty) := by rw [HN1.out.cellAt (k * 2) (by omega), HE2.out.1]; rfl
      have hcz2 : w1.cell? ⟨w.heap.size, k * 2 + 1, none⟩ = some (.int .i64 0) := by rw [HN1.out.cellAt (k * 2 + 1) (by omega), HE2.out.2]; rfl
      have hst := HN1.out.stored (k * 2) (.string ⟨x1.toArray⟩)
      have hst2 := hst.1.stored (k * 2 + 1) (.int .i64 x2)
      rw [HE.out] at hst2
      have HN2 := Lib.hid hst2.1
      have HB2 := Lib.hid ((HB1.out.trans (only_below hst.2 (Nat.le_refl _) HB1.out.size)).trans (only_below hst2.2 (Nat.le_refl _) (Nat.le_trans HB1.out.size hst.2.size)))
      clear hst hst2 HN HB HC HE HE2 HN1 HB1 hb1
      go_wp2_with fail
      go_roundw
      case rel => exact ⟨k + 1, by omega, by go_num, HN2, HB2⟩
      case measure => simp [intOf]; omega
    · have HN1 : Hid (wr.ownsRow w.heap.size 89 2 (.slice (some ⟨w.heap.size, 0, none⟩) l.length l.length) l.length (RC l)) := by
        have := HN.out
        rw [List.take_of_length_le (by omega), show l.length - k = 0 by omega] at this
        simpa [RC, Hid] using this
      clear HN hat
      go_wp2_with fail
      go_ret
      exact ⟨_, rfl, HN1.out, HB.out⟩

set_option maxRecDepth 20000 in
set_option maxHeartbeats 2000000 in
theorem eqResultS_any (l m : List ResT) (v u : Value) (w : World) (hr1 : RowR w v l) (hr2 : RowR w u m) (hl : l.length ≤ 2000000) :
    Calls Tryz.prog 29 #[v, u] w fun e w' => e = .returned (.bool (decide (l = m))) ∧ Below w.heap.size w w' := by
  obtain ⟨a, cap, rfl, hc1, hc2, hat⟩ := hr1.res
  obtain ⟨a2, cap2, rfl, hc3, hc4, hat2⟩ := hr2.res
  clear hr1 hr2
  unfold maxLen at hc2 hc4
  by_cases hlen : l.length = m.length
  · have hlen1 : ((l.length : Int) != (m.length : Int)) = false := by simp [hlen]
    have hle1 : l.length ≤ m.length := by omega
    have hle2 : m.length ≤ l.length := by omega
    clear hlen
    go_enter Tryz.func29, Tryz.ntmps29
    go_wp2_with fail
    go_loopw [5] (fun i wr => ∃ k : Nat, k ≤ l.length ∧ i = .int .i64 k ∧ Hid (l.take k = m.take k) ∧ Hid (Below w.heap.size w wr)) (fun i _ => l.length - (intOf i).toNat)
    case atStart => exact ⟨0, Nat.zero_le _, rfl, rfl, Below.refl _ _⟩
    case round =>
      obtain ⟨k, hk, rfl, HO, HB⟩ := hrel
      by_cases hlt : k < l.length
      · obtain ⟨g, o, rfl, hg, hcell1, hcell2⟩ := hat k hlt
        obtain ⟨g2, o2, rfl, hg2, hcell4, hcell5⟩ := hat2 k (by omega)
        have s1 := (HB.out.cell (p := ⟨g, o + k * 2, none⟩) hg).trans hcell1
        have s2 := (HB.out.cell (p := ⟨g, o + k * 2 + 1, none⟩) hg).trans hcell2
        have s4 := (HB.out.cell (p := ⟨g2, o2 + k * 2, none⟩) hg2).trans hcell4
        have s5 := (HB.out.cell (p := ⟨g2, o2 + k * 2 + 1, none⟩) hg2).trans hcell5
        have hi1 : (k : Int) < (l.length : Int) := by omega
        have hi2 : (k : Int) < (m.length : Int) := by omega
        have hbs := HB.out.size
        have hgw : g < wr.heap.size := by omega
        have hgw2 : g2 < wr.heap.size := by omega
        clear hcell1 hcell2 hcell4 hcell5 hat hat2
        obtain ⟨b, hbE⟩ : ∃ b, decide (l[k] = m[k]) = b := ⟨_, rfl⟩
        have HC := Lib.hid (fun W => eqResult_b hbE W)
        have HS : Hid (if b then l.take (k + 1) = m.take (k + 1) else decide (l = m) = false) := by
          unfold Hid
          subst hbE
          by_cases he : l[k] = m[k]
          · simp only [he, decide_true, if_true]; exact same_next HO.out hlt (by omega) he
          · simp only [he, decide_false]; exact decide_eq_false (same_not hlt (by omega) he)
        clear HO hbE
        generalize l[k] = x at s1 s2 HC
        generalize m[k] = y at s4 s5 HC
        obtain ⟨x1, x2⟩ := x
        obtain ⟨y1, y2⟩ := y
        unfold resV at HC
        simp only at s1 s2 s4 s5 HC
        go_wp2_with fail
        go_region_held3 (fun w' => w'.cell? ⟨g, o + k * 2, none⟩ = some (.string ⟨x1.toArray⟩) ∧ w'.cell? ⟨g, o + k * 2 + 1, none⟩ = some (.int .i64 x2) ∧ w'.cell? ⟨g2, o2 + k * 2, none⟩ = some (.string ⟨y1.toArray⟩) ∧ w'.cell? ⟨g2, o2 + k * 2 + 1, none⟩ = some (.int .i64 y2)) (first | exact ⟨s1, s2, s4, s5⟩ | exact ks)
          (first | (go_at_call 89; refine (HC.out _).mono ?_; rintro e w5 ⟨rfl, hb5⟩; have ks := And.intro ((hb5.cell (p := ⟨g, o + k * 2, none⟩) hgw).trans s1) (And.intro ((hb5.cell (p := ⟨g, o + k * 2 + 1, none⟩) hgw).trans s2) (And.intro ((hb5.cell (p := ⟨g2, o2 + k * 2, none⟩) hgw2).trans s4) ((hb5.cell (p := ⟨g2, o2 + k * 2 + 1, none⟩) hgw2).trans s5)))))
        have HB5 := Lib.hid ((Below.drew HB.out).trans (hb5.mono HB.out.size))
        clear hb5 ks
        rcases b with _ | _
        · go_wp2_with fail
          go_ret
          exact ⟨ret_bool (by have := HS.out; simpa using this.symm), HB5.out⟩
        · go_wp2_with fail
          go_roundw
          case rel => exact ⟨k + 1, by omega, by go_num, HS.out, HB5⟩
          case measure => simp [intOf]; omega
      · have HS : Hid (decide (l = m) = true) := decide_eq_true (same_all HO.out (by omega) (by omega))
        clear HO hat hat2
        go_wp2_with fail
        go_ret
        exact ⟨ret_bool HS.out.symm, HB.out⟩
  · have hlen1 : ((l.length : Int) != (m.length : Int)) = true := by simp; omega
    have HS : Hid (decide (l = m) = false) := decide_eq_false (fun h => hlen (by rw [h]))
    clear hat hat2
    go_enter Tryz.func29, Tryz.ntmps29
    go_wp2_with fail
    go_ret
    exact ⟨ret_bool HS.out.symm, Below.refl _ _⟩

/-- The results that are marks, from k on. -/
def marksR (k : Nat) (n : Nat) : List ResT := (List.range n).map (fun (i : Nat) => (markT (k + i * 2), ((k + i * 2 + 1 : Nat) : Int)))
theorem marksR_len (k n : Nat) : (marksR k n).length = n := by simp [marksR]
theorem marksR_snoc (k n : Nat) : marksR k (n + 1) = marksR k n ++ [(markT (k + n * 2), ((k + n * 2 + 1 : Nat) : Int))] := by simp [marksR, List.range_succ]
theorem set_bodyR (a : List ResT) (k : Nat) (ha : a.length = k) (x t : List UInt8) (q : Int) (rest : List ResT) :
    (RC a ++ RC ((t, q) :: rest)).set (k * 2) (.string ⟨x.toArray⟩) = RC a ++ RC ((x, q) :: rest) := by
  have hl : (RC a).length = k * 2 := by rw [RC_len, ha]
  rw [List.set_append_right _ _ (by omega), hl, Nat.sub_self]
  rfl
theorem set_stateR (a : List ResT) (k : Nat) (ha : a.length = k) (t : List UInt8) (x q : Int) (rest : List ResT) :
    (RC a ++ RC ((t, q) :: rest)).set (k * 2 + 1) (.int .i64 x) = RC (a ++ [(t, x)]) ++ RC rest := by
  have hl : (RC a).length = k * 2 := by rw [RC_len, ha]
  rw [List.set_append_right _ _ (by omega), hl, show k * 2 + 1 - k * 2 = 1 by omega, RC_append]
  simp [RC, resC]
theorem mark_r (j : Nat) (i : Int) (h : (j : Int) = i) (hk1 : j ≤ 8000000) (h1 : 1 ≤ j) (w : World) : Calls Tryz.prog 96 #[.int .i64 i] w fun e w' => e = .returned (.string ⟨(markT j).toArray⟩) ∧ Below w.heap.size w w' := by
  subst h
  exact markText_any j w hk1 h1

/-- The results hold the marks, and nothing but their own block has turned. -/
def MarkedR (B : Nat) (v : Value) (k : Nat) (n : Nat) (w : World) (e : Ending) (w' : World) : Prop :=
  e = .returned (.int .i64 ((k : Int) + (n : Int) * 2)) ∧ w'.ownsRow B 89 2 v n (RC (marksR k n)) ∧ w.grownBy w' v.ownBlock

set_option maxRecDepth 20000 in
set_option maxHeartbeats 1000000 in
theorem markResultS_any (l : List ResT) (k : Nat) (B : Nat) (v : Value) (w : World) (hown : w.ownsRow B 89 2 v l.length (RC l)) (hl : l.length ≤ 1100000) (hk : k ≤ 4000000) (hk1 : 1 ≤ k) :
    Calls Tryz.prog 34 #[v, .int .i64 (k : Int)] w (MarkedR B v k l.length w) := by
  have HW := Lib.hid hown
  obtain ⟨a, cap, rfl⟩ := own_sliceG hown
  clear hown
  go_enter Tryz.func34, Tryz.ntmps34
  go_wp2_with fail
  go_loopw [1, 5] (fun q i wr => ∃ j : Nat, j ≤ l.length ∧ q = .int .i64 ((k : Int) + (j : Int) * 2) ∧ i = .int .i64 j ∧ wr.ownsRow B 89 2 (.slice a l.length cap) l.length (RC (marksR k j) ++ RC (l.drop j)) ∧ w.grownBy wr (Value.slice a l.length cap).ownBlock) (fun _ i _ => l.length - (intOf i).toNat)
  case atStart => exact ⟨0, Nat.zero_le _, by simp, rfl, HW.out, grown_refl _ _⟩
  case round =>
    clear HW
    obtain ⟨j, hj, rfl, rfl, hown, hg⟩ := hrel
    by_cases hlt : j < l.length
    · obtain ⟨g, c2, hv⟩ : ∃ g c2, (Value.slice a l.length cap) = .slice (some ⟨g, 0, none⟩) l.length c2 := by
        rcases hown.2 with ⟨_, h0⟩ | ⟨g, c2, cur, hv, _⟩
        · omega
        · exact ⟨g, c2, hv⟩
      injection hv with hv1 hv2 hv3
      subst hv1
      have hc4 : l.length ≤ cap := by
        rcases hown.2 with ⟨_, h0⟩ | ⟨g, c2, cur, hv, _, _, h5, _⟩
        · omega
        · injection hv with _ _ hv3; omega
      have HC := Lib.hid (fun W => mark_r (k + j * 2) ((k : Int) + (j : Int) * 2) (by omega) (by omega) (by omega) W)
      rw [List.drop_eq_getElem_cons hlt, show l[j] = (l[j].1, l[j].2) from rfl] at hown
      have HE := Lib.hid (marksR_snoc k j)
      rw [show (((k + j * 2 + 1 : Nat) : Int)) = (k : Int) + (j : Int) * 2 + 1 by omega] at HE
      have ha := marksR_len k j
      have HG := Lib.hid hg
      have HN := Lib.hid hown
      clear hown hg hv2 hv3
      generalize l[j].1 = t at HN
      generalize l[j].2 = q at HN
      generalize markT (k + j * 2) = x at HC HE
      go_wp2_with fail
      refine (HC.out _).mono ?_
      rintro e w3 ⟨rfl, hb3⟩
      have HN3 := Lib.hid (own_belowG HN.out hb3)
      have hfz := HN3.out.frozenAt (j * 2)
      have hcz : w3.cell? ⟨g, j * 2, none⟩ = some (.string ⟨t.toArray⟩) := by rw [HN3.out.cellAt (j * 2) (by omega), (get_two (marksR k j) j ha _ _).1]
      have hst := HN3.out.stored (j * 2) (.string ⟨x.toArray⟩)
      rw [set_bodyR (marksR k j) j ha] at hst
      have hfz1 := hst.1.frozenAt (j * 2 + 1)
      have hcz1 : (w3.setCell ⟨g, j * 2, none⟩ (.string ⟨x.toArray⟩)).cell? ⟨g, j * 2 + 1, none⟩ = some (.int .i64 q) := by rw [hst.1.cellAt (j * 2 + 1) (by omega), (get_two (marksR k j) j ha _ _).2]
      have hst1 := hst.1.stored (j * 2 + 1) (.int .i64 ((k : Int) + (j : Int) * 2 + 1))
      rw [set_stateR (marksR k j) j ha, ← HE.out] at hst1
      have HN4 := Lib.hid hst1.1
      have HG4 := Lib.hid (grown_trans (grown_trans (grown_trans HG.out (below_grown hb3)) hst.2) hst1.2)
      clear hst hst1 hb3 HN HN3 HG ha HE HC
      go_wp2_with fail
      go_roundw
      case rel => exact ⟨j + 1, by omega, by go_num, by go_num, HN4.out, HG4.out⟩
      case measure => simp [intOf]; omega
    · obtain rfl : j = l.length := by omega
      have HN : Hid (wr.ownsRow B 89 2 (.slice a l.length cap) l.length (RC (marksR k l.length))) := by
        rw [List.drop_of_length_le (Nat.le_refl _)] at hown
        simpa [RC, Hid] using hown
      have HG := Lib.hid hg
      clear hown hg
      go_wp2_with fail
      go_ret
      exact ⟨rfl, HN.out, HG.out⟩
end Go.Proofs.YtngldlconipnnaaGreatDoor

/- Walks: results that are good, and those that failed, of the reference and of the program. -/
namespace Go.Proofs.YtngldlconipnnaaGreatDoor
open Go.RowKit Pth

theorem bthR {B : Nat} {w w1 w2 : World} (h : Below B w w1) (k : Below w1.heap.size w1 w2) (hB : B ≤ w.heap.size := by exact Nat.le_refl _) : Below B w w2 := h.trans (k.mono (Nat.le_trans hB h.size))
/-- Whether a result is one. -/
def resOk (r : ResT) : Bool := decide (0 ≤ r.2) && decide (r.2 ≤ 2) && decide (r.1.length ≤ 40) && (decide (r.2 = 0) || decide (r.1 = []))
def resA (l : List ResT) : Bool := decide (l.length ≤ 10) && l.all resOk
/-- Those of the first k that failed. -/
def failK (l : List ResT) (k : Nat) : List Int := ((List.range k).filter (fun j => decide ((l.getD j noRes).2 = 1))).map Int.ofNat
def failA (l : List ResT) : List Int := if resA l then failK l l.length else []
theorem failK_len (l : List ResT) (k : Nat) : (failK l k).length ≤ k := by
  unfold failK
  rw [List.length_map]
  exact Nat.le_trans (List.length_filter_le _ _) (by simp)
theorem failK_yes {l : List ResT} {k : Nat} (hk : k < l.length) (h : l[k].2 = 1) : failK l (k + 1) = failK l k ++ [(k : Int)] := by
  unfold failK
  rw [List.range_succ, List.filter_append, List.map_append]
  have : (l[k]?.getD noRes).2 = 1 := by rw [List.getElem?_eq_getElem hk]; exact h
  simp [this]
theorem failK_no {l : List ResT} {k : Nat} (hk : k < l.length) (h : l[k].2 ≠ 1) : failK l (k + 1) = failK l k := by
  unfold failK
  rw [List.range_succ, List.filter_append, List.map_append]
  have : ¬ (l[k]?.getD noRes).2 = 1 := by rw [List.getElem?_eq_getElem hk]; exact h
  simp [this]
theorem res_bad {l : List ResT} {k : Nat} (hk : k < l.length) (h : resOk l[k] = false) : resA l = false := by
  unfold resA
  rw [show l.all resOk = false from List.all_eq_false.2 ⟨l[k], List.getElem_mem hk, by simp [h]⟩, Bool.and_false]
theorem res_next {l : List ResT} {k : Nat} (hk : k < l.length) (ha : (l.take k).all resOk = true) (h : resOk l[k] = true) : (l.take (k + 1)).all resOk = true := by
  rw [List.take_succ_eq_append_getElem hk, List.all_append, ha]; simp [h]
theorem res_end {l : List ResT} {k : Nat} (hk : l.length ≤ k) (ha : (l.take k).all resOk = true) : resA l = decide (l.length ≤ 10) := by
  rw [List.take_of_length_le hk] at ha
  unfold resA; rw [ha, Bool.and_true]
theorem resA_small {l : List ResT} (h : resA l = true) : l.length ≤ 10 ∧ ∀ r ∈ l, r.1.length ≤ 40 := by
  unfold resA at h
  simp only [Bool.and_eq_true, decide_eq_true_eq, List.all_eq_true] at h
  refine ⟨h.1, fun r hr => ?_⟩
  have := h.2 r hr
  simp only [resOk, Bool.and_eq_true, decide_eq_true_eq] at this
  exact this.1.2

set_option maxRecDepth 20000 in
set_option maxHeartbeats 2000000 in
theorem specResults_any (l : List ResT) (v : Value) (w : World) (hrow : RowR w v l) (hx : ∀ f ∈ l, f.1.length ≤ maxLen) :
    Calls Tryz.prog 131 #[v] w (BoolPost (resA l) w) := by
  obtain ⟨a, cap, rfl, hc1, hc2, hat⟩ := hrow.res
  clear hrow
  unfold maxLen at hc2 hx
  go_enter Tryz.func131, Tryz.ntmps131
  go_wp2_with fail
  go_loopw [7] (fun i wr => ∃ k : Nat, k ≤ l.length ∧ i = .int .i64 k ∧ Hid (Below w.heap.size w wr) ∧ Hid ((l.take k).all resOk = true)) (fun i _ => l.length - (intOf i).toNat)
  case atStart => exact ⟨0, Nat.zero_le _, rfl, Below.refl _ _, by simp [Hid]⟩
  case round =>
    obtain ⟨k, hk, rfl, HB, HO⟩ := hrel
    have hbs := HB.out.size
    by_cases hlt : k < l.length
    · obtain ⟨g, o, rfl, hg, hcell1, hcell2⟩ := hat k hlt
      have s1 := (HB.out.cell (p := ⟨g, o + k * 2, none⟩) hg).trans hcell1
      have s2 := (HB.out.cell (p := ⟨g, o + k * 2 + 1, none⟩) hg).trans hcell2
      have HBA := Lib.hid (HB.out.alloc hbs (.cells #[.string ⟨l[k].1.toArray⟩, .int .i64 l[k].2] 89))
      have hxl := hx l[k] (List.getElem_mem hlt)
      obtain ⟨b1, hb1⟩ : ∃ b, (decide (0 ≤ l[k].2) && decide (l[k].2 ≤ 2)) = b := ⟨_, rfl⟩
      obtain ⟨b2, hb2⟩ : ∃ b, decide (l[k].1.length ≤ 40) = b := ⟨_, rfl⟩
      obtain ⟨b3, hb3⟩ : ∃ b, decide (l[k].2 = 0) = b := ⟨_, rfl⟩
      obtain ⟨b4, hb4⟩ : ∃ b, decide (l[k].1 = []) = b := ⟨_, rfl⟩
      have HC := Lib.hid (fun W => in_l hb1 W)
      have HS : Hid (if (b1 && b2 && (b3 || b4)) then (l.take (k + 1)).all resOk = true else resA l = false) := by
        unfold Hid
        have hR : resOk l[k] = (b1 && b2 && (b3 || b4)) := by unfold resOk; rw [hb1, hb2, hb3, hb4]
        split
        · rename_i h; exact res_next hlt HO.out (by rw [hR, h])
        · rename_i h; exact res_bad hlt (by rw [hR]; simpa using h)
      have e2 : decide ((l[k].1.length : Int) > 40) = !b2 := by rw [← hb2, Bool.eq_iff_iff]; simp <;> omega
      have e3 : (l[k].2 != 0) = !b3 := by rw [← hb3]; rfl
      have e4 := nil_b hb4
      clear hcell1 hcell2 hat HO hx hb1 hb2 hb3 hb4
      generalize l[k] = x at s1 s2 HC HBA hxl e2 e3 e4
      obtain ⟨x1, x2⟩ := x
      simp only at s1 s2 HC HBA hxl e2 e3 e4
      rcases b1 with _ | _
      · clear e2 e3 e4
        go_wp2_with fail
        refine (HC.out _).mono ?_
        rintro e w1 ⟨rfl, rfl⟩
        go_wp2_with fail
        go_ret
        exact ⟨ret_bool (by have := HS.out; simpa using this.symm), HBA.out⟩
      · rcases b2 with _ | _
        · simp only [Bool.not_false] at e2
          clear e3 e4
          go_wp2_with fail
          refine (HC.out _).mono ?_
          rintro e w1 ⟨rfl, rfl⟩
          go_wp2_with fail
          go_ret
          exact ⟨ret_bool (by have := HS.out; simpa using this.symm), HBA.out⟩
        · simp only [Bool.not_true] at e2
          rcases b3 with _ | _
          · simp only [Bool.not_false] at e3
            rcases b4 with _ | _
            · go_wp2_with fail
              refine (HC.out _).mono ?_
              rintro e w1 ⟨rfl, rfl⟩
              go_wp2_with fail
              go_ret
              exact ⟨ret_bool (by have := HS.out; simpa using this.symm), HBA.out⟩
            · go_wp2_with fail
              refine (HC.out _).mono ?_
              rintro e w1 ⟨rfl, rfl⟩
              go_wp2_with fail
              go_roundw
              case rel => exact ⟨k + 1, by omega, by go_num, HBA, by have := HS.out; simpa [Hid] using this⟩
              case measure => simp [intOf]; omega
          · simp only [Bool.not_true] at e3
            clear e4
            go_wp2_with fail
            refine (HC.out _).mono ?_
            rintro e w1 ⟨rfl, rfl⟩
            go_wp2_with fail
            go_roundw
            case rel => exact ⟨k + 1, by omega, by go_num, HBA, by have := HS.out; simpa [Hid] using this⟩
            case measure => simp [intOf]; omega
    · have HT : Hid (resA l = decide (l.length ≤ 10)) := res_end (by omega) HO.out
      clear HO hat hx
      go_wp2_with fail
      go_ret
      refine ⟨?_, HB.out⟩
      rw [HT.out]
      show Ending.returned (.bool (decide ((l.length : Int) ≤ 10))) = _
      congr 2
      simp only [decide_eq_decide]
      omega

theorem specResults_b {l : List ResT} {b : Bool} (h : resA l = b) (v : Value) (w : World) (hrow : RowR w v l) (hx : ∀ f ∈ l, f.1.length ≤ maxLen) : Calls Tryz.prog 131 #[v] w (BoolPost b w) := by
  have := specResults_any l v w hrow hx; rwa [h] at this

-- the program's
theorem longR_b {x : List UInt8} {b : Bool} (h : decide (x.length ≤ 40) = b) (w : World) (_hl : x.length ≤ maxLen) : Calls Tryz.prog 109 #[.string ⟨x.toArray⟩] w fun e w' => e = .returned (.bool (!b)) ∧ w = w' := by
  go_enter Tryz.func109, Tryz.ntmps109
  go_wp2
  go_ret
  refine ⟨?_, rfl⟩
  congr 2
  rw [← h]
  simp
  rw [Bool.eq_iff_iff]
  simp <;> omega

set_option maxHeartbeats 1000000 in
theorem noRes_b {o : ResT} {b : Bool} (h : resOk o = b) (w : World) (hx : o.1.length ≤ maxLen) :
    Calls Tryz.prog 125 #[resV o] w (BoolPost (!b) w) := by
  obtain ⟨t, n⟩ := o
  subst h
  unfold resV
  simp only at hx ⊢
  have HB := Lib.hid ((Below.refl w.heap.size w).alloc (Nat.le_refl _) (.cells #[.string ⟨t.toArray⟩, .int .i64 n] 89))
  obtain ⟨b2, hb2⟩ : ∃ b, decide (t.length ≤ 40) = b := ⟨_, rfl⟩
  have HC := Lib.hid (fun W => longR_b hb2 W hx)
  unfold maxLen at hx
  by_cases k0 : n = 0
  · subst k0
    have HT : Hid (resOk (t, 0) = b2) := by unfold resOk; rw [hb2]; simp [Hid]
    clear hb2
    go_enter Tryz.func125, Tryz.ntmps125
    go_wp2_with fail
    refine (HC.out _).mono ?_
    rintro e w1 ⟨rfl, rfl⟩
    go_wp2_with fail
    go_ret
    exact ⟨by rw [HT.out] <;> rfl, HB.out⟩
  have e0 : (n == 0) = false := by simpa using k0
  obtain ⟨b4, hb4⟩ : ∃ b, decide (t = []) = b := ⟨_, rfl⟩
  have e4 := nil_b hb4
  have hle : b4 = true → b2 = true := by rintro rfl; rw [← hb2]; have := of_decide_eq_true hb4; rw [this]; rfl
  by_cases k12 : n = 1 ∨ n = 2
  · have HT : Hid (resOk (t, n) = b4) := by
      unfold resOk; rw [hb2, hb4]
      rcases k12 with rfl | rfl <;> (cases b4 <;> simp_all [Hid])
    clear hb2 hb4 hle HC e0 k0
    rcases k12 with rfl | rfl <;> rcases b4 with _ | _ <;>
      (go_enter Tryz.func125, Tryz.ntmps125
       go_wp2_with fail
       go_ret
       exact ⟨by rw [HT.out] <;> rfl, HB.out⟩)
  · have HT : Hid (resOk (t, n) = false) := by
      unfold resOk Hid
      have : (decide (0 ≤ n) && decide (n ≤ 2)) = false := by simp; omega
      rw [this]; rfl
    have e1 : (n != 1) = true := by simp; omega
    have e2 : (n != 2) = true := by simp; omega
    clear hb2 hb4 hle HC k0 e4 k12
    go_enter Tryz.func125, Tryz.ntmps125
    go_wp2_with fail
    go_ret
    exact ⟨by rw [HT.out] <;> rfl, HB.out⟩

/-- Whether one is none. -/
def noneL (l : List ResT) : Bool := l.any (fun r => !resOk r)
theorem none_at {l : List ResT} {k : Nat} (h : k < l.length) (hx : resOk l[k] = false) : noneL l = true := by
  rw [noneL, List.any_eq_true]
  exact ⟨l[k], List.getElem_mem h, by simp [hx]⟩
theorem none_all {l : List ResT} (h : l.all resOk = true) : noneL l = false := by
  rw [noneL, List.any_eq_false]
  intro x hm
  have := List.all_eq_true.1 h x hm
  simp [this]

set_option maxRecDepth 20000 in
set_option maxHeartbeats 2000000 in
theorem index_anyR (l : List ResT) (v : Value) (w : World) (hrow : RowR w v l) (hx : ∀ f ∈ l, f.1.length ≤ maxLen) :
    Calls Tryz.prog 226 #[v, .func (.func 125) #[] #[]] w fun e w' => ∃ i : Int, e = .returned (.int .i64 i) ∧ (0 ≤ i ↔ noneL l = true) ∧ Below w.heap.size w w' := by
  obtain ⟨a, cap, rfl, hc1, hc2, hat⟩ := hrow.res
  clear hrow
  unfold maxLen at hc2
  go_enter Tryz.func226, Tryz.ntmps226
  go_wp2_with fail
  go_loopw [8] (fun i wr => ∃ k : Nat, k ≤ l.length ∧ i = .int .i64 k ∧ Hid (Below w.heap.size w wr) ∧ Hid ((l.take k).all resOk = true)) (fun i _ => l.length - (intOf i).toNat)
  case atStart => exact ⟨0, Nat.zero_le _, by go_num, Below.refl _ _, by simp [Hid]⟩
  case round =>
    obtain ⟨k, hk, rfl, HB, HO⟩ := hrel
    by_cases hlt : k < l.length
    · obtain ⟨g, o, rfl, hg, hcell1, hcell2⟩ := hat k hlt
      have s1 := (HB.out.cell (p := ⟨g, o + k * 2, none⟩) hg).trans hcell1
      have s2 := (HB.out.cell (p := ⟨g, o + k * 2 + 1, none⟩) hg).trans hcell2
      have hxl := hx l[k] (List.getElem_mem hlt)
      have hltz : (k : Int) < (l.length : Int) := by omega
      obtain ⟨b, hbE⟩ : ∃ b, resOk l[k] = b := ⟨_, rfl⟩
      have HC := Lib.hid (fun W => noRes_b hbE W hxl)
      rcases b with _ | _
      · have HS := Lib.hid (none_at hlt hbE)
        clear hcell1 hcell2 hat HO hx hxl hbE
        generalize l[k] = x at s1 s2 HC
        obtain ⟨x1, x2⟩ := x
        unfold resV at HC
        simp only at s1 s2 HC
        go_wp2_with (go_at_call 125; refine (HC.out _).mono ?_; rintro e w1 ⟨rfl, hb1⟩; have HB1 := Lib.hid (bthR HB.out hb1); clear hb1)
        go_ret
        exact ⟨(k : Int), rfl, by rw [HS.out]; simp, HB1.out⟩
      · have HS := Lib.hid (res_next hlt HO.out hbE)
        clear hcell1 hcell2 hat HO hx hxl hbE
        generalize l[k] = x at s1 s2 HC
        obtain ⟨x1, x2⟩ := x
        unfold resV at HC
        simp only at s1 s2 HC
        go_wp2_with (go_at_call 125; refine (HC.out _).mono ?_; rintro e w1 ⟨rfl, hb1⟩; have HB1 := Lib.hid (bthR HB.out hb1); clear hb1)
        go_roundw
        case rel => exact ⟨k + 1, by omega, by go_num, HB1, HS⟩
        case measure => simp [intOf]; omega
    · have HS : Hid (noneL l = false) := none_all (by have := HO.out; rwa [List.take_of_length_le (by omega)] at this)
      have hltz : ¬ ((k : Int) < (l.length : Int)) := by omega
      clear hat HO hx
      go_wp2_with fail
      go_ret
      exact ⟨-1, rfl, by rw [HS.out]; simp, HB.out⟩

set_option maxRecDepth 20000 in
set_option maxHeartbeats 1000000 in
theorem contains_anyR (l : List ResT) (v : Value) (w : World) (hrow : RowR w v l) (hx : ∀ f ∈ l, f.1.length ≤ maxLen) :
    Calls Tryz.prog 216 #[v, .func (.func 125) #[] #[]] w (BoolPost (noneL l) w) := by
  have HC := Lib.hid (index_anyR l v w hrow hx)
  clear hrow hx
  go_enter Tryz.func216, Tryz.ntmps216
  go_wp2_with fail
  refine HC.out.mono ?_
  rintro e w1 ⟨i, rfl, hi, hb1⟩
  have HI := Lib.hid hi
  have HB1 := Lib.hid hb1
  clear hi HC hb1
  go_wp2_with fail
  go_ret
  refine ⟨?_, HB1.out⟩
  show Ending.returned (.bool (decide (0 ≤ i))) = _
  congr 2
  rw [Bool.eq_iff_iff, decide_eq_true_eq]
  exact HI.out
theorem contains_bR {l : List ResT} {b : Bool} (h : noneL l = b) (v : Value) (w : World) (hrow : RowR w v l) (hx : ∀ f ∈ l, f.1.length ≤ maxLen) :
    Calls Tryz.prog 216 #[v, .func (.func 125) #[] #[]] w (BoolPost b w) := by
  have := contains_anyR l v w hrow hx; rwa [h] at this
theorem resA_is (l : List ResT) : resA l = (decide (l.length ≤ 10) && !noneL l) := by
  unfold resA
  rcases h : l.all resOk with _ | _
  · obtain ⟨x, hm, hx⟩ := List.all_eq_false.1 h
    have : noneL l = true := by rw [noneL, List.any_eq_true]; exact ⟨x, hm, by simpa using hx⟩
    rw [this]; rfl
  · rw [none_all h]; rfl

set_option maxRecDepth 20000 in
set_option maxHeartbeats 1000000 in
theorem areRes_b {l : List ResT} {b : Bool} (h : resA l = b) (v : Value) (w : World) (hrow : RowR w v l) (hx : ∀ f ∈ l, f.1.length ≤ maxLen) :
    Calls Tryz.prog 200 #[v] w (BoolPost b w) := by
  rw [resA_is] at h
  obtain ⟨c, hc⟩ : ∃ c, noneL l = c := ⟨_, rfl⟩
  have HC := Lib.hid (contains_bR hc v w hrow hx)
  obtain ⟨a, cap, rfl, hc1, hc2, _⟩ := hrow.res
  rw [hc] at h
  clear hrow hx hc
  unfold maxLen at hc2
  by_cases h10 : l.length ≤ 10
  · have hd : decide ((l.length : Int) ≤ 10) = true := by simp; omega
    have HT : Hid (b = !c) := by rw [← h, decide_eq_true h10]; rfl
    clear h h10
    go_enter Tryz.func200, Tryz.ntmps200
    go_wp2_with fail
    refine HC.out.mono ?_
    rintro e w1 ⟨rfl, hb1⟩
    have HB1 := Lib.hid hb1
    clear hb1 HC
    go_wp2_with fail
    go_ret
    exact ⟨by rw [HT.out] <;> rfl, HB1.out⟩
  · have hd : decide ((l.length : Int) ≤ 10) = false := by simp; omega
    have HT : Hid (b = false) := by rw [← h, decide_eq_false h10]; rfl
    clear h h10 HC
    go_enter Tryz.func200, Tryz.ntmps200
    go_wp2_with fail
    go_ret
    exact ⟨by rw [HT.out] <;> rfl, Below.refl _ _⟩

end Go.Proofs.YtngldlconipnnaaGreatDoor

/- Walks: the law that those that failed are told alike. -/
namespace Go.Proofs.YtngldlconipnnaaGreatDoor
open Go.RowKit Pth

/-- The law says yes, and nothing that lay there has turned. -/
def YesW (w : World) (e : Ending) (w' : World) : Prop := e = .returned (.bool true) ∧ Below w.heap.size w w'
theorem failA_short (l : List ResT) : (failA l).length ≤ 10 := by
  unfold failA
  split
  · rename_i h
    have := (resA_small h).1
    have := failK_len l l.length
    omega
  · simp
/-- A list that another list's block is no part of. -/
theorem own_besideR {w w' : World} {B1 e n : Nat} {v u : Value} {xs : List Value} (h : w.ownsRow B1 e 1 v n xs) (hg : w.grownBy w' u.ownBlock) (hu : ∀ k, u.ownBlock = some k → k < B1) : w'.ownsRow B1 e 1 v n xs := by
  refine h.kept hg ?_
  rcases hv : v.ownBlock with _ | k
  · exact .inl rfl
  · refine .inr (fun e => ?_)
    have h1 := (h.lt k hv).1
    have h2 := hu k e.symm
    omega
end Go.Proofs.YtngldlconipnnaaGreatDoor

/- Walks: whether there is such a task, where it stands. -/
namespace Go.Proofs.YtngldlconipnnaaGreatDoor
open Go.RowKit Pth

/-- There is such a task, in a good graph. -/
noncomputable def taskG (ls : List (List Int)) (l : List Int) (k : Int) : Bool := goodG ls l && (decide (0 ≤ k) && decide (k < (ls.length : Int)))
theorem taskG_yes {ls : List (List Int)} {l : List Int} {k : Int} (h : taskG ls l k = true) : GoodG ls l ∧ 0 ≤ k ∧ k < (ls.length : Int) := by
  unfold taskG at h
  simp only [Bool.and_eq_true, decide_eq_true_eq] at h
  exact ⟨goodG_iff.1 h.1, h.2⟩
theorem taskG_good {ls : List (List Int)} {l : List Int} {k : Int} (h : goodG ls l = false) : taskG ls l k = false := by unfold taskG; rw [h]; rfl
theorem taskG_in {ls : List (List Int)} {l : List Int} {k : Int} (h : goodG ls l = true) : taskG ls l k = (decide (0 ≤ k) && decide (k < (ls.length : Int))) := by unfold taskG; rw [h]; rfl

theorem l1In_task {k : Int} {n : Nat} {w : World} {b : Bool} (h : (decide (0 ≤ k) && decide (k < (n : Int))) = b) :
    Calls Tryz.prog 169 #[.int .i64 k, .int .i64 0, .int .i64 ((n : Int) - 1)] w fun e w' => e = .returned (.bool b) ∧ w = w' := by
  have e : (decide (0 ≤ k) && decide (k ≤ (n : Int) - 1)) = b := by rw [← h, Bool.eq_iff_iff]; simp; omega
  have := l1In_any k 0 ((n : Int) - 1) w
  rw [e] at this
  exact this

set_option maxRecDepth 20000 in
set_option maxHeartbeats 1000000 in
theorem l5Task_any (ls : List (List Int)) (l : List Int) (k : Int) (v : Value) (w : World) (hst : GraphV w v ls l) :
    Calls Tryz.prog 184 #[v, .int .i64 k] w fun e w' => e = .returned (.bool (taskG ls l k)) ∧ Below w.heap.size w w' := by
  have HV := Lib.hid hst
  obtain ⟨nv, ov, rfl, h1, h2⟩ := hst
  obtain ⟨an, cn, rfl, hn1, hn2, _⟩ := h1.lists
  obtain ⟨ao, co, rfl, ho1, ho2, _⟩ := h2.ints
  clear h1 h2
  unfold maxLen at hn2 ho2
  obtain ⟨wa, hwa⟩ : ∃ wa, wa = w.alloc (.cells #[.slice an ls.length cn, .slice ao l.length co] 26) := ⟨_, rfl⟩
  have P0 : Hid (Blk2 wa w.heap.size 26 (.slice an ls.length cn) (.slice ao l.length co)) := by rw [hwa]; exact Blk2.new
  have HA : Hid (Below w.heap.size w wa) := by rw [hwa]; exact (Below.refl w.heap.size w).alloc (Nat.le_refl _) _
  have hsz : w.heap.size < wa.heap.size := by rw [hwa]; simp
  have HWA := Lib.hid hwa
  have HC := specGood_any ls l _ wa (HV.out.below HA.out)
  clear hwa
  rcases hG : goodG ls l with _ | _
  · rw [hG] at HC
    have HCC := Lib.hid HC
    have HT := Lib.hid (taskG_good (k := k) hG)
    rw [HT.out]
    clear HC hG
    go_enter Tryz.func184, Tryz.ntmps184
    go_wp2_with fail
    rw [← HWA.out]
    refine HCC.out.mono ?_
    rintro e w1 ⟨rfl, hb1⟩
    have HB1 := Lib.hid (bth HA.out hb1 (Nat.le_refl _))
    clear hb1
    go_wp2_with fail
    go_ret
    exact ⟨rfl, HB1.out⟩
  · rw [hG] at HC
    have HCC := Lib.hid HC
    have HT := Lib.hid (taskG_in (k := k) hG)
    rw [HT.out]
    generalize hb : (decide (0 ≤ k) && decide (k < (ls.length : Int))) = b
    have HI := Lib.hid (fun W => l1In_task (n := ls.length) (w := W) hb)
    clear HC hG hb HT
    go_enter Tryz.func184, Tryz.ntmps184
    go_wp2_with fail
    rw [← HWA.out]
    refine HCC.out.mono ?_
    rintro e w1 ⟨rfl, hb1⟩
    have HB1 := Lib.hid (bth HA.out hb1 (Nat.le_refl _))
    have c0 := (P0.out.below hb1 hsz).cells.1
    clear hb1
    go_wp2_with fail
    refine (HI.out _).mono ?_
    rintro e w2 ⟨rfl, rfl⟩
    go_wp2_with fail
    go_ret
    exact ⟨rfl, HB1.out⟩

set_option maxHeartbeats 1000000 in
theorem index_any (l : List Int) (n : Int) (v : Value) (w : World) (hrow : RowV w v (I l)) :
    Calls Tryz.prog 143 #[v, .int .i64 n] w fun e w' => e = .returned (.int .i64 (placeI l n)) ∧ w = w' := by
  obtain ⟨a, cap, rfl, hc1, hc2, hat⟩ := hrow.ints
  clear hrow
  unfold maxLen at hc2
  go_enter Tryz.func143, Tryz.ntmps143
  go_wp2_with fail
  go_loop [8] (fun i => ∃ k : Nat, k ≤ l.length ∧ i = .int .i64 k ∧ Hid (n ∉ l.take k)) (fun i => l.length - (intOf i).toNat)
  case atStart => exact ⟨0, Nat.zero_le _, rfl, by simp [Hid]⟩
  case round =>
    obtain ⟨k, hk, rfl, HO⟩ := hrel
    by_cases hlt : k < l.length
    · obtain ⟨g, o, rfl, hg, hcell⟩ := hat k hlt
      clear hat
      by_cases hx : l[k] = n
      · have HR : Hid (placeI l n = k) := place_at hlt HO.out hx
        have hx1 : (n == l[k]) = true := by simp [hx]
        generalize l[k] = x at hcell hx hx1
        clear HO hx
        go_wp2_with fail
        go_ret
        exact ⟨ret_int HR.out.symm, rfl⟩
      · have HR : Hid (n ∉ l.take (k + 1)) := not_take hlt HO.out hx
        have hx1 : (n == l[k]) = false := by simp; exact fun h => hx h.symm
        generalize l[k] = x at hcell hx hx1
        clear HO hx
        go_wp2_with fail
        go_round
        case rel => exact ⟨k + 1, by omega, by go_num, HR⟩
        case measure => simp [intOf]; omega
    · have HR : Hid (placeI l n = -1) := by have := HO.out; rw [List.take_of_length_le (by omega)] at this; exact place_none this
      clear HO hat
      go_wp2_with fail
      go_ret
      exact ⟨ret_int HR.out.symm, rfl⟩

set_option maxHeartbeats 1000000 in
theorem contains_any (l : List Int) (n : Int) (v : Value) (w : World) (hrow : RowV w v (I l)) :
    Calls Tryz.prog 86 #[v, .int .i64 n] w fun e w' => e = .returned (.bool (hasL l n)) ∧ w = w' := by
  have HC := Lib.hid (index_any l n v w hrow)
  have HR : Hid (decide (placeI l n ≥ 0) = hasL l n) := by
    show decide (placeI l n ≥ 0) = hasL l n
    rw [hasL, Bool.eq_iff_iff, decide_eq_true_iff, decide_eq_true_iff]; exact place_nonneg
  obtain ⟨a, cap, rfl, hc1, hc2, _⟩ := hrow.ints
  clear hrow
  unfold maxLen at hc2
  go_enter Tryz.func86, Tryz.ntmps86
  go_wp2_with fail
  refine HC.out.mono ?_
  rintro e w1 ⟨rfl, rfl⟩
  go_wp2_with fail
  go_ret
  exact ⟨ret_bool HR.out, rfl⟩

/-- Where a task stands, and whether there is such a one. -/
noncomputable def placeA (ls : List (List Int)) (l : List Int) (k : Int) : Int := if taskG ls l k then placeI l k else 0
def PlacePost (ls : List (List Int)) (l : List Int) (k : Int) (w : World) (e : Ending) (w' : World) : Prop := e = .returned (.tuple #[.int .i64 (placeA ls l k), .bool (taskG ls l k)]) ∧ Below w.heap.size w w'

end Go.Proofs.YtngldlconipnnaaGreatDoor

/- Plain mathematics of ways of needs: how far, by a queue and along the order; no program. -/
namespace Go.Proofs.YtngldlconipnnaaGreatDoor
namespace Pth

/-- What a task needs. -/
def needsAt (ls : List (List Int)) (k : Int) : List Int := ls.getD k.toNat []
theorem needsAt_get {ls : List (List Int)} {k : Nat} (hk : k < ls.length) : needsAt ls k = ls[k] := by
  unfold needsAt; simp [hk]
/-- So many needs lead from a task to t. -/
def Way (ls : List (List Int)) (t : Int) : Nat → Int → Prop
  | 0, k => k = t
  | m + 1, k => ∃ x ∈ needsAt ls k, Way ls t m x
/-- How many at least, -1 for none. -/
def IsFar (ls : List (List Int)) (t k d : Int) : Prop := (∃ m : Nat, d = m ∧ Way ls t m k ∧ ∀ j, j < m → ¬ Way ls t j k) ∨ (d = -1 ∧ ∀ m, ¬ Way ls t m k)
theorem far_exists (ls : List (List Int)) (t k : Int) : ∃ d, IsFar ls t k d := by
  rcases Classical.em (∃ m, Way ls t m k) with ⟨m, hm⟩ | h
  · induction m using Nat.strongRecOn with
    | ind m ih =>
      rcases Classical.em (∃ j, j < m ∧ Way ls t j k) with ⟨j, hj, hw⟩ | h
      · exact ih j hj hw
      · exact ⟨m, .inl ⟨m, rfl, hm, fun j hj hw => h ⟨j, hj, hw⟩⟩⟩
  · exact ⟨-1, .inr ⟨rfl, fun m hm => h ⟨m, hm⟩⟩⟩
theorem far_one {ls : List (List Int)} {t k d e : Int} (h : IsFar ls t k d) (h' : IsFar ls t k e) : d = e := by
  rcases h with ⟨m, rfl, h1, h2⟩ | ⟨rfl, h1⟩ <;> rcases h' with ⟨m', rfl, h1', h2'⟩ | ⟨rfl, h1'⟩
  · rcases Nat.lt_trichotomy m m' with h | h | h
    · exact absurd h1 (h2' m h)
    · rw [h]
    · exact absurd h1' (h2 m' h)
  · exact absurd h1 (h1' m)
  · exact absurd h1' (h1 m')
  · rfl
noncomputable def farI (ls : List (List Int)) (t k : Int) : Int := Classical.choose (far_exists ls t k)
theorem farI_is (ls : List (List Int)) (t k : Int) : IsFar ls t k (farI ls t k) := Classical.choose_spec (far_exists ls t k)
theorem farI_eq {ls : List (List Int)} {t k d : Int} (h : IsFar ls t k d) : farI ls t k = d := far_one (farI_is ls t k) h
theorem farI_low (ls : List (List Int)) (t k : Int) : -1 ≤ farI ls t k := by
  rcases farI_is ls t k with ⟨m, h, _⟩ | ⟨h, _⟩ <;> omega
theorem farI_self (ls : List (List Int)) (t : Int) : farI ls t t = 0 := farI_eq (.inl ⟨0, rfl, rfl, fun j hj => by omega⟩)
theorem farI_zero {ls : List (List Int)} {t k : Int} (h : farI ls t k = 0) : k = t := by
  rcases farI_is ls t k with ⟨m, hm, h1, _⟩ | ⟨hm, _⟩
  · have : m = 0 := by omega
    subst this; exact h1
  · omega
theorem farI_le {ls : List (List Int)} {t k : Int} {m : Nat} (h : Way ls t m k) : 0 ≤ farI ls t k ∧ farI ls t k ≤ m := by
  rcases farI_is ls t k with ⟨j, hj, h1, h2⟩ | ⟨_, h1⟩
  · rcases Nat.lt_or_ge m j with h' | h'
    · exact absurd h (h2 m h')
    · omega
  · exact absurd h (h1 m)
theorem farI_way {ls : List (List Int)} {t k : Int} (h : 0 ≤ farI ls t k) : Way ls t (farI ls t k).toNat k := by
  rcases farI_is ls t k with ⟨j, hj, h1, h2⟩ | ⟨h', _⟩
  · rw [hj]; exact h1
  · omega
/-- The next one on a shortest way. -/
theorem far_next {ls : List (List Int)} {t k : Int} {m : Nat} (h : farI ls t k = (m : Int) + 1) : ∃ x ∈ needsAt ls k, farI ls t x = m := by
  have hw := farI_way (ls := ls) (t := t) (k := k) (by omega)
  rw [h, show ((m : Int) + 1).toNat = m + 1 by omega] at hw
  obtain ⟨x, hx, hxw⟩ := hw
  refine ⟨x, hx, ?_⟩
  have h1 := farI_le hxw
  by_cases h' : farI ls t x < m
  · have h2 := farI_way h1.1
    have h3 : Way ls t ((farI ls t x).toNat + 1) k := ⟨x, hx, h2⟩
    have h4 := farI_le h3
    omega
  · omega
theorem far_edge {ls : List (List Int)} {t k x : Int} (hx : x ∈ needsAt ls k) (h : 0 ≤ farI ls t x) : 0 ≤ farI ls t k ∧ farI ls t k ≤ farI ls t x + 1 := by
  have h3 : Way ls t ((farI ls t x).toNat + 1) k := ⟨x, hx, farI_way h⟩
  have h4 := farI_le h3
  omega

/-- The next ones least. -/
noncomputable def nextI (ls : List (List Int)) (t k : Int) : Int := ((needsAt ls k).find? (fun x => decide (farI ls t x = farI ls t k - 1))).getD t
noncomputable def wayL (ls : List (List Int)) (t : Int) : Nat → Int → List Int
  | 0, k => [k]
  | m + 1, k => k :: wayL ls t m (nextI ls t k)
theorem next_at {ls : List (List Int)} {t k : Int} {j : Nat} (hj : j < (needsAt ls k).length) (h : ∀ i (hi : i < j), farI ls t (needsAt ls k)[i] ≠ farI ls t k - 1) (he : farI ls t (needsAt ls k)[j] = farI ls t k - 1) : nextI ls t k = (needsAt ls k)[j] := by
  have : (needsAt ls k).find? (fun x => decide (farI ls t x = farI ls t k - 1)) = some (needsAt ls k)[j] := by
    rw [List.find?_eq_some_iff_getElem]
    refine ⟨by simpa using he, j, hj, rfl, fun i hi => ?_⟩
    have := h i hi
    simpa using this
  unfold nextI
  rw [this]; rfl
theorem next_far {ls : List (List Int)} {t k : Int} {m : Nat} (h : farI ls t k = (m : Int) + 1) : farI ls t (nextI ls t k) = m ∧ nextI ls t k ∈ needsAt ls k := by
  obtain ⟨x, hx, hf⟩ := far_next h
  have : ((needsAt ls k).find? (fun x => decide (farI ls t x = farI ls t k - 1))).isSome = true := by
    rw [List.find?_isSome]
    exact ⟨x, hx, by simp; omega⟩
  obtain ⟨y, hy⟩ := Option.isSome_iff_exists.1 this
  have h1 := List.find?_some hy
  have h2 := List.mem_of_find?_eq_some hy
  simp only [decide_eq_true_eq] at h1
  unfold nextI
  rw [hy]
  exact ⟨by simp only [Option.getD_some]; omega, h2⟩
theorem wayL_len (ls : List (List Int)) (t : Int) (m : Nat) (k : Int) : (wayL ls t m k).length = m + 1 := by
  induction m generalizing k with
  | zero => rfl
  | succ m ih => rw [wayL, List.length_cons, ih]

/-- What the queue keeps while one is looked at: those that are behind it, those that are left. -/
structure Spread (ls : List (List Int)) (t : Int) (out : List Int) (all : List Int) : Prop where
  len : out.length = ls.length
  self : t ∈ all ∧ out.getD t.toNat (-1) = 0
  sound : ∀ k : Nat, k < ls.length → (out.getD k (-1) = -1 ∧ (k : Int) ∉ all) ∨ (0 ≤ out.getD k (-1) ∧ (k : Int) ∈ all ∧ Way ls t (out.getD k (-1)).toNat k)
  range : ∀ k ∈ all, 0 ≤ k ∧ k < (ls.length : Int)
  nodup : all.Nodup
/-- How far by the list so far. -/
def at' (out : List Int) (k : Int) : Int := out.getD k.toNat (-1)
structure Front (ls : List (List Int)) (t : Int) (out : List Int) (done queue : List Int) : Prop where
  spread : Spread ls t out (done ++ queue)
  sorted : queue.Pairwise (fun a b => at' out a ≤ at' out b)
  near : ∀ q r, queue = q :: r → ∀ p ∈ done ++ queue, at' out p ≤ at' out q + 1
  closed : ∀ x ∈ done, ∀ k : Nat, (hk : k < ls.length) → x ∈ ls[k] → (k : Int) ∈ done ++ queue ∧ at' out k ≤ at' out x + 1
structure Inner (ls : List (List Int)) (t : Int) (out : List Int) (done : List Int) (x : Int) (d : Int) (queue us : List Int) : Prop where
  spread : Spread ls t out (done ++ x :: queue)
  dist : at' out x = d
  d0 : 0 ≤ d
  sorted : queue.Pairwise (fun a b => at' out a ≤ at' out b)
  least : ∀ q ∈ queue, d ≤ at' out q
  near : ∀ p ∈ done ++ x :: queue, at' out p ≤ d + 1
  closed : ∀ y ∈ done, ∀ k : Nat, (hk : k < ls.length) → y ∈ ls[k] → (k : Int) ∈ done ++ x :: queue ∧ at' out k ≤ at' out y + 1
  seen : ∀ k ∈ us, k ∈ done ++ x :: queue

theorem at_start {n : Nat} {t : Nat} (ht : t < n) (k : Nat) (hk : k < n) : ((List.replicate n (-1 : Int)).set t 0).getD k (-1) = if k = t then 0 else -1 := by
  rw [List.getD_eq_getElem?_getD, List.getElem?_set]
  by_cases h : t = k
  · subst h; simp [ht]
  · rw [if_neg h, if_neg (fun e => h e.symm)]; simp [hk]
theorem Front.start {ls : List (List Int)} {t : Nat} (ht : t < ls.length) : Front ls t ((List.replicate ls.length (-1)).set t 0) [] [(t : Int)] := by
  refine ⟨⟨by simp, ⟨by simp, ?_⟩, fun k hk => ?_, fun k hk => ?_, by simp⟩, by simp, fun q r h p hp => ?_, by simp⟩
  · rw [show ((t : Int)).toNat = t by omega, at_start ht t ht, if_pos rfl]
  · rw [at_start ht k hk]
    by_cases h : k = t
    · subst h; rw [if_pos rfl]; exact .inr ⟨by omega, by simp, rfl⟩
    · rw [if_neg h]; exact .inl ⟨rfl, by simp; omega⟩
  · simp at hk; omega
  · simp only [List.nil_append, List.mem_singleton] at hp
    injection h with h1 h2
    rw [hp, ← h1]; omega
theorem Front.open {ls : List (List Int)} {t : Int} {out done queue : List Int} {x : Int} (h : Front ls t out done (x :: queue)) : Inner ls t out done x (at' out x) queue [] := by
  have hx := h.spread.range x (by simp)
  have h2 := List.pairwise_cons.1 h.sorted
  refine ⟨h.spread, rfl, ?_, h2.2, fun q hq => h2.1 q hq, fun p hp => h.near x queue rfl p hp, h.closed, by simp⟩
  rcases h.spread.sound x.toNat (by omega) with h3 | h3
  · rw [show ((x.toNat : Nat) : Int) = x by omega] at h3; exact absurd (by simp) h3.2
  · exact h3.1
theorem Inner.close {ls : List (List Int)} {t : Int} {out done queue us : List Int} {x d : Int} (h : Inner ls t out done x d queue us) (hus : ∀ k : Nat, (hk : k < ls.length) → x ∈ ls[k] → (k : Int) ∈ us) : Front ls t out (done ++ [x]) queue := by
  have e : done ++ [x] ++ queue = done ++ x :: queue := by simp
  refine ⟨by rw [e]; exact h.spread, h.sorted, fun q r hq p hp => ?_, fun y hy k hk hm => ?_⟩
  · rw [e] at hp
    have h1 := h.near p hp
    have h2 := h.least q (by rw [hq]; simp)
    omega
  · rw [e]
    rw [List.mem_append, List.mem_singleton] at hy
    rcases hy with hy | rfl
    · exact h.closed y hy k hk hm
    · have := h.seen k (hus k hk hm)
      exact ⟨this, by have := h.near k this; rw [h.dist]; exact this⟩
theorem Inner.skip {ls : List (List Int)} {t : Int} {out done queue us : List Int} {x d : Int} {k : Nat} (h : Inner ls t out done x d queue us) (hk : k < ls.length) (hs : ¬ at' out k < 0) : Inner ls t out done x d queue (us ++ [(k : Int)]) := by
  refine ⟨h.spread, h.dist, h.d0, h.sorted, h.least, h.near, h.closed, fun j hj => ?_⟩
  rw [List.mem_append, List.mem_singleton] at hj
  rcases hj with hj | rfl
  · exact h.seen j hj
  · rcases h.spread.sound k hk with h1 | h1
    · exact absurd (show at' out k < 0 by unfold at'; rw [show ((k : Int)).toNat = k by omega, h1.1]; omega) hs
    · exact h1.2.1
theorem set_at {out : List Int} {k j : Nat} {e : Int} (hk : k < out.length) : (out.set k e).getD j (-1) = if j = k then e else out.getD j (-1) := by
  rw [List.getD_eq_getElem?_getD, List.getElem?_set, List.getD_eq_getElem?_getD]
  by_cases h : k = j
  · subst h; simp [hk]
  · rw [if_neg h, if_neg (fun e => h e.symm)]
theorem Inner.put {ls : List (List Int)} {t : Int} {out done queue us : List Int} {x d : Int} {k : Nat} (h : Inner ls t out done x d queue us) (hk : k < ls.length) (hm : x ∈ ls[k]) (hs : at' out k < 0) :
    Inner ls t (out.set k (d + 1)) done x d (queue ++ [(k : Int)]) (us ++ [(k : Int)]) := by
  have hkl : k < out.length := by rw [h.spread.len]; exact hk
  have hno : (k : Int) ∉ done ++ x :: queue := by
    rcases h.spread.sound k hk with h1 | h1
    · exact h1.2
    · exact absurd h1.1 (by unfold at' at hs; rw [show ((k : Int)).toNat = k by omega] at hs; omega)
  have e : done ++ x :: (queue ++ [(k : Int)]) = (done ++ x :: queue) ++ [(k : Int)] := by simp
  have same : ∀ p ∈ done ++ x :: queue, at' (out.set k (d + 1)) p = at' out p := by
    intro p hp
    have hr := h.spread.range p hp
    unfold at'
    rw [set_at hkl, if_neg]
    intro he
    exact hno (by rw [← he, show ((p.toNat : Nat) : Int) = p by omega]; exact hp)
  have new : at' (out.set k (d + 1)) k = d + 1 := by
    unfold at'
    rw [show ((k : Int)).toNat = k by omega, set_at hkl, if_pos rfl]
  have hx := h.spread.range x (by simp)
  have hway : Way ls t d.toNat x := by
    rcases h.spread.sound x.toNat (by omega) with h1 | h1
    · rw [show ((x.toNat : Nat) : Int) = x by omega] at h1; exact absurd (by simp) h1.2
    · have := h1.2.2
      rw [show ((x.toNat : Nat) : Int) = x by omega] at this
      have hd := h.dist
      unfold at' at hd
      rw [hd] at this; exact this
  have d0 := h.d0
  refine ⟨⟨by rw [List.length_set]; exact h.spread.len, ⟨by rw [e]; exact List.mem_append.2 (.inl h.spread.self.1), ?_⟩, fun j hj => ?_, fun j hj => ?_, ?_⟩, by rw [same x (by simp)]; exact h.dist, d0, ?_, fun q hq => ?_, fun p hp => ?_, fun y hy j hj hym => ?_, fun j hj => ?_⟩
  · have := same t h.spread.self.1
    unfold at' at this
    rw [this]; exact h.spread.self.2
  · rw [e, set_at hkl]
    by_cases hjk : j = k
    · subst hjk
      rw [if_pos rfl]
      refine .inr ⟨by omega, by simp, ?_⟩
      rw [show (d + 1).toNat = d.toNat + 1 by omega]
      exact ⟨x, by rw [needsAt_get hj]; exact hm, hway⟩
    · rw [if_neg hjk]
      rcases h.spread.sound j hj with h1 | h1
      · exact .inl ⟨h1.1, by rw [List.mem_append, List.mem_singleton]; rintro (h2 | h2); exact h1.2 h2; omega⟩
      · exact .inr ⟨h1.1, List.mem_append.2 (.inl h1.2.1), h1.2.2⟩
  · rw [e, List.mem_append, List.mem_singleton] at hj
    rcases hj with hj | rfl
    · exact h.spread.range j hj
    · omega
  · rw [e, List.nodup_append]
    refine ⟨h.spread.nodup, by simp, fun a ha b hb => ?_⟩
    rw [List.mem_singleton] at hb
    rintro rfl
    exact hno (by rw [← hb]; exact ha)
  · rw [List.pairwise_append]
    refine ⟨h.sorted.imp_of_mem (fun ha hb hab => by rw [same _ (by simp [ha]), same _ (by simp [hb])]; exact hab), by simp, fun a ha b hb => ?_⟩
    rw [List.mem_singleton] at hb
    rw [hb, new, same a (by simp [ha])]
    exact h.near a (by simp [ha])
  · rw [List.mem_append, List.mem_singleton] at hq
    rcases hq with hq | rfl
    · rw [same q (by simp [hq])]; exact h.least q hq
    · rw [new]; omega
  · rw [e, List.mem_append, List.mem_singleton] at hp
    rcases hp with hp | rfl
    · rw [same p hp]; exact h.near p hp
    · rw [new]; omega
  · obtain ⟨h1, h2⟩ := h.closed y hy j hj hym
    rw [e, same _ h1, same y (by simp [hy])]
    exact ⟨List.mem_append.2 (.inl h1), h2⟩
  · rw [e, List.mem_append]
    rw [List.mem_append] at hj
    rcases hj with hj | hj
    · exact .inl (h.seen j hj)
    · exact .inr hj
/-- Where the queue is empty, all is known. -/
theorem Front.done {ls : List (List Int)} {t : Int} {out done : List Int} (hin : ∀ k (hk : k < ls.length), ∀ x ∈ ls[k], 0 ≤ x ∧ x < (ls.length : Int)) (h : Front ls t out done []) : out = (upto ls.length).map (farI ls t) := by
  have hle : ∀ m : Nat, ∀ k : Nat, k < ls.length → Way ls t m k → 0 ≤ out.getD k (-1) ∧ out.getD k (-1) ≤ m := by
    intro m
    induction m with
    | zero =>
      intro k hk hw
      have : (k : Int) = t := hw
      have h1 := h.spread.self.2
      rw [← this, show ((k : Int)).toNat = k by omega] at h1
      rw [h1]; omega
    | succ m ih =>
      intro k hk hw
      obtain ⟨x, hx, hxw⟩ := hw
      rw [needsAt_get hk] at hx
      have hxr := hin k hk x hx
      have hxe : ((x.toNat : Nat) : Int) = x := by omega
      have h1 := ih x.toNat (by omega) (by rw [hxe]; exact hxw)
      have h2 : x ∈ done := by
        rcases h.spread.sound x.toNat (by omega) with h3 | h3
        · omega
        · have := h3.2.1; rw [hxe, List.append_nil] at this; exact this
      obtain ⟨h3, h4⟩ := h.closed x h2 k hk hx
      unfold at' at h4
      rw [show ((k : Int)).toNat = k by omega] at h4
      rcases h.spread.sound k hk with h5 | h5
      · exact absurd h3 h5.2
      · omega
  apply List.ext_getElem (by rw [h.spread.len, List.length_map, upto_len])
  intro k h1 h2
  have hk : k < ls.length := by rw [h.spread.len] at h1; exact h1
  rw [List.getElem_map, upto_get]
  symm
  apply farI_eq
  have hg : out.getD k (-1) = out[k] := by rw [List.getD_eq_getElem?_getD, List.getElem?_eq_getElem h1]; rfl
  rcases h.spread.sound k hk with h3 | h3
  · refine .inr ⟨by rw [← hg]; exact h3.1, fun m hw => ?_⟩
    have := hle m k hk hw
    omega
  · refine .inl ⟨(out.getD k (-1)).toNat, by rw [← hg]; omega, h3.2.2, fun j hj hw => ?_⟩
    have := hle j k hk hw
    omega
theorem Front.room {ls : List (List Int)} {t : Int} {out done queue : List Int} (h : Front ls t out done queue) : done.length + queue.length ≤ ls.length := by
  have := nodup_sub (a := done ++ queue) (b := upto ls.length) h.spread.nodup (fun x hx => mem_upto.2 (h.spread.range x hx))
  rw [upto_len, List.length_append] at this
  exact this
end Pth
end Go.Proofs.YtngldlconipnnaaGreatDoor
