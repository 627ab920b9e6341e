/- Texts of one claim, joined in their order. -/
import Derived.Test.YtnkkbleebfijgaaM7

/- Walks: what blocks a task, as it is told, of the reference and of the program. -/
namespace Go.Proofs.Ytnkkbleebfijgaa
open Go.RowKit Pth

theorem in_no {ls : List (List Int)} {l : List Int} {bs : List Bool} {rs : List (List OpT)} {m : List ResT} {t : Int} (h : bothA ls l bs rs m = false) : inA ls l bs rs m t = false := by unfold inA; rw [h]; rfl
theorem in_yes {ls : List (List Int)} {l : List Int} {bs : List Bool} {rs : List (List OpT)} {m : List ResT} {t : Int} (h : bothA ls l bs rs m = true) : inA ls l bs rs m t = (decide (0 ≤ t) && decide (t < (bs.length : Int))) := by unfold inA; rw [h]; rfl
theorem block_no {ls : List (List Int)} {l : List Int} {bs : List Bool} {rs : List (List OpT)} {m : List ResT} {t : Int} (h : inA ls l bs rs m t = false) : blockA ls l bs rs m t = (0, false) := by unfold blockA; rw [h]; rfl
theorem block_un {ls : List (List Int)} {l : List Int} {bs : List Bool} {rs : List (List OpT)} {m : List ResT} {t : Int} (h : (resAt m t).2 ≠ 2) : blockA ls l bs rs m t = (0, false) := by unfold blockA; rw [decide_eq_false h]; simp
theorem block_yes {ls : List (List Int)} {l : List Int} {bs : List Bool} {rs : List (List OpT)} {m : List ResT} {j : Nat} (h : inA ls l bs rs m (j : Int) = true) (h2 : (resAt m (j : Int)).2 = 2) (hj : j < ls.length) : blockA ls l bs rs m (j : Int) = firstL m ls[j] := by
  unfold blockA; rw [h, decide_eq_true h2, needsAt_get hj]; rfl
theorem ins_no {ls : List (List Int)} {l : List Int} {bs : List Bool} {rs : List (List OpT)} {m : List ResT} {t : Int} (h : inA ls l bs rs m t = false) : insA ls l bs rs m t = [] := by unfold insA; rw [h]; rfl
theorem ins_yes {ls : List (List Int)} {l : List Int} {bs : List Bool} {rs : List (List OpT)} {m : List ResT} {j : Nat} (h : inA ls l bs rs m (j : Int) = true) (hj : j < ls.length) : insA ls l bs rs m (j : Int) = bodiesL m ls[j] := by
  unfold insA; rw [h, needsAt_get hj]; rfl

set_option maxRecDepth 20000 in
set_option maxHeartbeats 1000000 in
theorem l7Task_b {ls : List (List Int)} {l : List Int} {bs : List Bool} {rs : List (List OpT)} {t : Int} {b : Bool} (h : (decide (0 ≤ t) && decide (t < (bs.length : Int))) = b) (v : Value) (w : World) (hp : PlanV w v ls l bs rs) :
    Calls Try.prog 80 #[v, .int .i64 t] w (BoolPost b w) := by
  obtain ⟨nv, ov, sv, rv, rfl, h1, h2, h3, h4⟩ := hp
  obtain ⟨as0, cs, rfl, hs1, hs2, _⟩ := h3.boolsW
  obtain ⟨an, cn, rfl, hn1, hn2, _⟩ := h1.lists
  obtain ⟨ao, co, rfl, ho1, ho2, _⟩ := h2.ints
  obtain ⟨ar, cr, rfl, hr1, hr2, _⟩ := h4.lists
  clear h1 h2 h3 h4
  unfold maxLen at hs2 hn2 ho2 hr2
  have HC := Lib.hid (fun W => l1In_task (w := W) h)
  have HB := Lib.hid ((Below.refl w.heap.size w).alloc (Nat.le_refl _) (.cells #[.slice an ls.length cn, .slice ao l.length co, .slice as0 bs.length cs, .slice ar rs.length cr] 44))
  clear h
  go_enter Try.func80, Try.ntmps80
  go_wp2_with fail
  refine (HC.out _).mono ?_
  rintro e w1 ⟨rfl, rfl⟩
  go_wp2_with fail
  go_ret
  exact ⟨rfl, HB.out⟩

set_option maxRecDepth 20000 in
set_option maxHeartbeats 8000000 in
theorem specBlock_any (ls : List (List Int)) (l : List Int) (bs : List Bool) (rs : List (List OpT)) (m : List ResT) (t : Int) (v u : Value) (w : World) (hp : PlanV w v ls l bs rs) (hr : RowR w u m) (hx : ∀ l ∈ rs, ∀ f ∈ l, f.2.2.length ≤ maxLen) (hxm : ∀ f ∈ m, f.1.length ≤ maxLen) :
    Calls Try.prog 35 #[v, u, .int .i64 t] w (NumOk (blockA ls l bs rs m t) w) := by
  have HV := Lib.hid hp
  have HR := Lib.hid hr
  obtain ⟨nv, ov, sv, rv, rfl, h1, h2, h3, h4⟩ := hp
  obtain ⟨as0, cs, rfl, hs1, hs2, _⟩ := h3.boolsW
  obtain ⟨an, cn, rfl, hn1, hn2, hatn⟩ := h1.lists
  obtain ⟨ao, co, rfl, ho1, ho2, _⟩ := h2.ints
  obtain ⟨ar, cr, rfl, hr1, hr2, _⟩ := h4.lists
  obtain ⟨am, cm, rfl, hm1, hm2, hatm⟩ := hr.res
  clear h1 h2 h3 h4 hr
  unfold maxLen at hs2 hn2 ho2 hr2 hm2
  obtain ⟨wa, hwa⟩ : ∃ wa, wa = w.alloc (.cells #[.slice an ls.length cn, .slice ao l.length co, .slice as0 bs.length cs, .slice ar rs.length cr] 44) := ⟨_, rfl⟩
  have hsz : w.heap.size < wa.heap.size := by rw [hwa]; simp
  have P0 : Hid (Blk4 wa w.heap.size 44 (.slice an ls.length cn) (.slice ao l.length co) (.slice as0 bs.length cs) (.slice ar rs.length cr)) := by rw [hwa]; exact Blk4.new
  have HA : Hid (Below w.heap.size w wa) := by rw [hwa]; exact (Below.refl w.heap.size w).alloc (Nat.le_refl _) _
  have HWA := Lib.hid hwa
  have HVW : Hid (∀ W, Below wa.heap.size wa W → PlanV W (.agg #[.slice an ls.length cn, .slice ao l.length co, .slice as0 bs.length cs, .slice ar rs.length cr]) ls l bs rs) := fun W h => HV.out.below (bth HA.out h (Nat.le_refl _))
  have HRW : Hid (∀ W, Below wa.heap.size wa W → RowR W (.slice am m.length cm) m) := fun W h => HR.out.below (bth HA.out h (Nat.le_refl _))
  obtain ⟨b, hb⟩ : ∃ b, bothA ls l bs rs m = b := ⟨_, rfl⟩
  obtain ⟨d, hd⟩ : ∃ d, (decide (0 ≤ t) && decide (t < (bs.length : Int))) = d := ⟨_, rfl⟩
  have HC := Lib.hid (specBoth_b hb _ _ wa (HVW.out wa (Below.refl _ _)) (HRW.out wa (Below.refl _ _)) hx hxm)
  obtain ⟨c0, c1, c2, c3⟩ := P0.out.cells
  have HATN := Lib.hid hatn
  have HATM := Lib.hid hatm
  clear hwa hatn hatm hx hxm
  rcases b with _ | _
  · have HT : Hid (inA ls l bs rs m t = false) := in_no hb
    clear hb hd HVW HRW
    go_enter Try.func35, Try.ntmps35
    go_wp2_with fail
    rw [← HWA.out]
    refine HC.out.mono ?_
    rintro e w1 ⟨rfl, hb1⟩
    have HB1 := Lib.hid (bth HA.out hb1 (Nat.le_refl _))
    clear hb1 c0 c1 c2 c3
    go_wp2_with fail
    go_ret2
    exact ⟨by rw [block_no HT.out] <;> rfl, HB1.out⟩
  have hpl := (both_parts hb).1
  have hml : m.length = ls.length := by have := (both_parts hb).2.2; have := (plan_parts hpl).2.1; omega
  have hbl : bs.length = ls.length := (plan_parts hpl).2.1
  have HIN : Hid (inA ls l bs rs m t = d) := by show _ = _; rw [in_yes hb, hd]
  have HPL := Lib.hid hpl
  have HMB := Lib.hid (both_parts hb).2.2
  have HRA := Lib.hid (both_parts hb).2.1
  have HCT := Lib.hid (fun W (h : Below wa.heap.size wa W) => l7Task_b hd _ W (HVW.out W h))
  rcases d with _ | _
  · clear hb hd hpl hml hbl
    go_enter Try.func35, Try.ntmps35
    go_wp2_with fail
    rw [← HWA.out]
    refine HC.out.mono ?_
    rintro e w1 ⟨rfl, hb1⟩
    have K1 := Lib.hid hb1
    clear hb1 c0 c1 c2 c3
    obtain ⟨c0, c1, c2, c3⟩ := (P0.out.below K1.out hsz).cells
    go_wp2_with fail
    refine (HCT.out w1 K1.out).mono ?_
    rintro e w2 ⟨rfl, hb2⟩
    have HB2 := Lib.hid (bth HA.out (bth K1.out hb2 (Nat.le_refl _)) (Nat.le_refl _))
    clear hb2 c0 c1 c2 c3
    go_wp2_with fail
    go_ret2
    exact ⟨by rw [block_no HIN.out] <;> rfl, HB2.out⟩
  obtain ⟨j, hj⟩ : ∃ j : Nat, t = j := ⟨t.toNat, by simp only [Bool.and_eq_true, decide_eq_true_eq] at hd; omega⟩
  subst hj
  have hjl : j < ls.length := by simp only [Bool.and_eq_true, decide_eq_true_eq] at hd; omega
  have hjm : j < m.length := by omega
  have HJL := Lib.hid hjl
  have hjz : (j : Int) < (m.length : Int) := by omega
  have hjn : (j : Int) < (ls.length : Int) := by omega
  obtain ⟨g2, o2, rfl, hg2, hm1', hm2'⟩ := HATM.out j hjm
  have HM2 : Hid (∀ W, Below wa.heap.size wa W → W.cell? ⟨g2, o2 + j * 2, none⟩ = some (.string ⟨m[j].1.toArray⟩) ∧ W.cell? ⟨g2, o2 + j * 2 + 1, none⟩ = some (.int .i64 m[j].2)) := fun W h => ⟨((bth HA.out h (Nat.le_refl _)).cell (p := ⟨g2, o2 + j * 2, none⟩) hg2).trans hm1', ((bth HA.out h (Nat.le_refl _)).cell (p := ⟨g2, o2 + j * 2 + 1, none⟩) hg2).trans hm2'⟩
  have hra := resAt_nat hjm
  clear hm1' hm2'
  by_cases hs : m[j].2 = 2
  · have HT : Hid (blockA ls l bs rs m (j : Int) = firstL m ls[j]) := block_yes HIN.out (by rw [hra]; exact hs) hjl
    have e0 : (m[j].2 != 2) = false := by simp [hs]
    have HQ := Lib.hid hs
    clear hb hd hpl hml hbl hra hs
    go_enter Try.func35, Try.ntmps35
    go_wp2_with fail
    rw [← HWA.out]
    refine HC.out.mono ?_
    rintro e w1 ⟨rfl, hb1⟩
    have K1 := Lib.hid hb1
    clear hb1 c0 c1 c2 c3
    obtain ⟨c0, c1, c2, c3⟩ := (P0.out.below K1.out hsz).cells
    go_wp2_with fail
    refine (HCT.out w1 K1.out).mono ?_
    rintro e w2 ⟨rfl, hb2⟩
    have K2 := Lib.hid (bth K1.out hb2 (Nat.le_refl _))
    clear hb2 c0 c1 c2 c3
    obtain ⟨c0, c1, c2, c3⟩ := (P0.out.below K2.out hsz).cells
    obtain ⟨s1, s2⟩ := HM2.out w2 K2.out
    obtain ⟨gn, on, an2, cn2, rfl, hgn, hcn, hrn⟩ := HATN.out j hjl
    obtain ⟨_, _, hev, hcl, hcm, hatk⟩ := hrn.ints
    injection hev with hea _ hec
    subst hea hec
    unfold maxLen at hcm
    have HATK := Lib.hid hatk
    obtain ⟨hl10, hin⟩ := plan_task HPL.out hjl
    have HIX := Lib.hid hin
    have hs1 : w2.cell? ⟨gn, on + j, none⟩ = some (.slice an2 ls[j].length cn2) := ((bth HA.out K2.out (Nat.le_refl _)).cell (p := ⟨gn, on + j, none⟩) hgn).trans hcn
    have HMLL : Hid (m.length = ls.length) := by have := HMB.out; have := (plan_parts HPL.out).2.1; show _ = _; omega
    clear hatk hin hcn hrn HVW HRW
    go_wp2_with fail
    clear c0 c1 c2 c3 s1 s2 hs1
    go_loopw [35] (fun i wr => ∃ k : Nat, k ≤ ls[j].length ∧ i = .int .i64 k ∧ Hid (Below wa.heap.size wa wr) ∧ Hid (∀ x ∈ ls[j].take k, (resAt m x).2 = 0)) (fun i _ => ls[j].length - (intOf i).toNat)
    case atStart => exact ⟨0, Nat.zero_le _, rfl, K2.out, by simp [Hid]⟩
    case round =>
      obtain ⟨k, hk, rfl, HB, HO⟩ := hrel
      have HBW := Lib.hid (bth HA.out HB.out (Nat.le_refl _))
      by_cases hlt : k < ls[j].length
      · obtain ⟨g, o, rfl, hg, hcell0⟩ := HATK.out k hlt
        have hcell1 := (HBW.out.cell (p := ⟨g, o + k, none⟩) hg).trans hcell0
        obtain ⟨hx0, hx1⟩ := HIX.out _ (List.getElem_mem hlt)
        obtain ⟨y, hy⟩ : ∃ y : Nat, ls[j][k] = y := ⟨(ls[j][k]).toNat, by omega⟩
        have hcell := hcell1.trans (congrArg (fun z => some (Value.int .i64 z)) hy)
        clear hcell1
        have hym : y < m.length := by have := HMLL.out; omega
        obtain ⟨g3, o3, hga, hg3, hm1', hm2'⟩ := HATM.out y hym
        obtain ⟨rfl, rfl⟩ := addr_inj hga
        have s1 := (HBW.out.cell (p := ⟨g2, o2 + y * 2, none⟩) hg3).trans hm1'
        have s2 := (HBW.out.cell (p := ⟨g2, o2 + y * 2 + 1, none⟩) hg3).trans hm2'
        have hra := resAt_nat hym
        have hyz : (y : Int) < (m.length : Int) := by omega
        by_cases hz : m[y].2 = 0
        · have HE : Hid (∀ x ∈ ls[j].take (k + 1), (resAt m x).2 = 0) := take_zero hlt HO.out (by rw [hy, hra]; exact hz)
          have e1 : (m[y].2 != 0) = false := by simp [hz]
          clear hcell0 hx0 hx1 hy hm1' hm2' HO hra hz HATK HATM HIX e0 HATN hga
          generalize m[y] = q at *
          obtain ⟨q1, q2⟩ := q
          simp only at s1 s2 e1
          obtain ⟨c0, c1, c2, c3⟩ := (P0.out.below HB.out hsz).cells
          go_wp2_with fail
          go_roundw
          case rel => exact ⟨k + 1, by omega, by go_num, HB, HE⟩
          case measure => simp [intOf]; omega
        · have HE : Hid (blockA ls l bs rs m (j : Int) = ((y : Int), true)) := by show _ = _; rw [HT.out, first_yes hlt HO.out (by rw [hy, hra]; exact hz), hy]
          have e1 : (m[y].2 != 0) = true := by simp [hz]
          clear hcell0 hx0 hx1 hy hm1' hm2' HO hra hz HATK HATM HIX e0 HATN hga
          generalize m[y] = q at *
          obtain ⟨q1, q2⟩ := q
          simp only at s1 s2 e1
          obtain ⟨c0, c1, c2, c3⟩ := (P0.out.below HB.out hsz).cells
          go_wp2_with fail
          go_ret2
          exact ⟨by rw [HE.out] <;> rfl, HBW.out⟩
      · have HE : Hid (blockA ls l bs rs m (j : Int) = (0, false)) := by show _ = _; rw [HT.out]; exact first_no (by have := HO.out; rwa [List.take_of_length_le (by omega)] at this)
        clear HO HATK HATM HIX HATN
        go_wp2_with fail
        go_ret2
        exact ⟨by rw [HE.out] <;> rfl, HBW.out⟩
  · have HT : Hid (blockA ls l bs rs m (j : Int) = (0, false)) := block_un (by rw [hra]; exact hs)
    have e0 : (m[j].2 != 2) = true := by simp [hs]
    clear hb hd hpl hml hbl hra hs
    go_enter Try.func35, Try.ntmps35
    go_wp2_with fail
    rw [← HWA.out]
    refine HC.out.mono ?_
    rintro e w1 ⟨rfl, hb1⟩
    have K1 := Lib.hid hb1
    clear hb1 c0 c1 c2 c3
    obtain ⟨c0, c1, c2, c3⟩ := (P0.out.below K1.out hsz).cells
    go_wp2_with fail
    refine (HCT.out w1 K1.out).mono ?_
    rintro e w2 ⟨rfl, hb2⟩
    have K2 := Lib.hid (bth K1.out hb2 (Nat.le_refl _))
    clear hb2 c0 c1 c2 c3
    obtain ⟨c0, c1, c2, c3⟩ := (P0.out.below K2.out hsz).cells
    obtain ⟨s1, s2⟩ := HM2.out w2 K2.out
    go_wp2_with fail
    go_ret2
    exact ⟨by rw [HT.out] <;> rfl, bth HA.out K2.out (Nat.le_refl _)⟩

set_option maxRecDepth 20000 in
set_option maxHeartbeats 8000000 in
theorem implBlock_any (ls : List (List Int)) (l : List Int) (bs : List Bool) (rs : List (List OpT)) (m : List ResT) (t : Int) (v u : Value) (w : World) (hp : PlanV w v ls l bs rs) (hr : RowR w u m) (hx : ∀ l ∈ rs, ∀ f ∈ l, f.2.2.length ≤ maxLen) (hxm : ∀ f ∈ m, f.1.length ≤ maxLen) :
    Calls Try.prog 36 #[v, u, .int .i64 t] w (NumOk (blockA ls l bs rs m t) w) := by
  have HV := Lib.hid hp
  have HR := Lib.hid hr
  obtain ⟨nv, ov, sv, rv, rfl, h1, h2, h3, h4⟩ := hp
  obtain ⟨as0, cs, rfl, hs1, hs2, _⟩ := h3.boolsW
  obtain ⟨an, cn, rfl, hn1, hn2, hatn⟩ := h1.lists
  obtain ⟨ao, co, rfl, ho1, ho2, _⟩ := h2.ints
  obtain ⟨ar, cr, rfl, hr1, hr2, _⟩ := h4.lists
  obtain ⟨am, cm, rfl, hm1, hm2, hatm⟩ := hr.res
  clear h1 h2 h3 h4 hr
  unfold maxLen at hs2 hn2 ho2 hr2 hm2
  obtain ⟨wa, hwa⟩ : ∃ wa, wa = w.alloc (.cells #[.slice an ls.length cn, .slice ao l.length co, .slice as0 bs.length cs, .slice ar rs.length cr] 44) := ⟨_, rfl⟩
  have hsz : w.heap.size < wa.heap.size := by rw [hwa]; simp
  have P0 : Hid (Blk4 wa w.heap.size 44 (.slice an ls.length cn) (.slice ao l.length co) (.slice as0 bs.length cs) (.slice ar rs.length cr)) := by rw [hwa]; exact Blk4.new
  have HA : Hid (Below w.heap.size w wa) := by rw [hwa]; exact (Below.refl w.heap.size w).alloc (Nat.le_refl _) _
  have HWA := Lib.hid hwa
  have HVW : Hid (∀ W, Below wa.heap.size wa W → PlanV W (.agg #[.slice an ls.length cn, .slice ao l.length co, .slice as0 bs.length cs, .slice ar rs.length cr]) ls l bs rs) := fun W h => HV.out.below (bth HA.out h (Nat.le_refl _))
  have HRW : Hid (∀ W, Below wa.heap.size wa W → RowR W (.slice am m.length cm) m) := fun W h => HR.out.below (bth HA.out h (Nat.le_refl _))
  obtain ⟨b, hb⟩ : ∃ b, bothA ls l bs rs m = b := ⟨_, rfl⟩
  obtain ⟨d, hd⟩ : ∃ d, (decide (0 ≤ t) && decide (t < (bs.length : Int))) = d := ⟨_, rfl⟩
  have HC := Lib.hid (implBoth_b hb _ _ wa (HVW.out wa (Below.refl _ _)) (HRW.out wa (Below.refl _ _)) hx hxm)
  obtain ⟨c0, c1, c2, c3⟩ := P0.out.cells
  have HATN := Lib.hid hatn
  have HATM := Lib.hid hatm
  clear hwa hatn hatm hx hxm
  rcases b with _ | _
  · have HT : Hid (inA ls l bs rs m t = false) := in_no hb
    clear hb hd HVW HRW
    go_enter Try.func36, Try.ntmps36
    go_wp2_with fail
    rw [← HWA.out]
    refine HC.out.mono ?_
    rintro e w1 ⟨rfl, hb1⟩
    have HB1 := Lib.hid (bth HA.out hb1 (Nat.le_refl _))
    clear hb1 c0 c1 c2 c3
    go_wp2_with fail
    go_ret2
    exact ⟨by rw [block_no HT.out] <;> rfl, HB1.out⟩
  have hpl := (both_parts hb).1
  have hml : m.length = ls.length := by have := (both_parts hb).2.2; have := (plan_parts hpl).2.1; omega
  have hbl : bs.length = ls.length := (plan_parts hpl).2.1
  have HIN : Hid (inA ls l bs rs m t = d) := by show _ = _; rw [in_yes hb, hd]
  have HPL := Lib.hid hpl
  have HMB := Lib.hid (both_parts hb).2.2
  have HRA := Lib.hid (both_parts hb).2.1
  have HCT : Hid (∀ W, Below wa.heap.size wa W → Calls Try.prog 53 #[.agg #[.slice an ls.length cn, .slice ao l.length co], .int .i64 t] W fun e w' => e = .returned (.bool d) ∧ Below W.heap.size W w') := fun W h => by
    obtain ⟨_, _, _, _, he, k1, k2, _, _⟩ := HVW.out W h
    injection he with he
    simp only [Array.mk.injEq, List.cons.injEq, and_true] at he
    obtain ⟨rfl, rfl, _, _⟩ := he
    exact isTask_b (ls := ls) (l := l) ⟨_, _, rfl, k1, k2⟩ (by rw [← hd, hbl])
  rcases d with _ | _
  · clear hb hd hpl hml hbl
    go_enter Try.func36, Try.ntmps36
    go_wp2_with fail
    rw [← HWA.out]
    refine HC.out.mono ?_
    rintro e w1 ⟨rfl, hb1⟩
    have K1 := Lib.hid hb1
    clear hb1 c0 c1 c2 c3
    obtain ⟨c0, c1, c2, c3⟩ := (P0.out.below K1.out hsz).cells
    go_wp2_with fail
    refine (HCT.out w1 K1.out).mono ?_
    rintro e w2 ⟨rfl, hb2⟩
    have HB2 := Lib.hid (bth HA.out (bth K1.out hb2 (Nat.le_refl _)) (Nat.le_refl _))
    clear hb2 c0 c1 c2 c3
    go_wp2_with fail
    go_ret2
    exact ⟨by rw [block_no HIN.out] <;> rfl, HB2.out⟩
  obtain ⟨j, hj⟩ : ∃ j : Nat, t = j := ⟨t.toNat, by simp only [Bool.and_eq_true, decide_eq_true_eq] at hd; omega⟩
  subst hj
  have hjl : j < ls.length := by simp only [Bool.and_eq_true, decide_eq_true_eq] at hd; omega
  have hjm : j < m.length := by omega
  have HJL := Lib.hid hjl
  have hjz : (j : Int) < (m.length : Int) := by omega
  have hjn : (j : Int) < (ls.length : Int) := by omega
  obtain ⟨g2, o2, rfl, hg2, hm1', hm2'⟩ := HATM.out j hjm
  have HM2 : Hid (∀ W, Below wa.heap.size wa W → W.cell? ⟨g2, o2 + j * 2, none⟩ = some (.string ⟨m[j].1.toArray⟩) ∧ W.cell? ⟨g2, o2 + j * 2 + 1, none⟩ = some (.int .i64 m[j].2)) := fun W h => ⟨((bth HA.out h (Nat.le_refl _)).cell (p := ⟨g2, o2 + j * 2, none⟩) hg2).trans hm1', ((bth HA.out h (Nat.le_refl _)).cell (p := ⟨g2, o2 + j * 2 + 1, none⟩) hg2).trans hm2'⟩
  have hra := resAt_nat hjm
  clear hm1' hm2'
  by_cases hs : m[j].2 = 2
  · have HT : Hid (blockA ls l bs rs m (j : Int) = firstL m ls[j]) := block_yes HIN.out (by rw [hra]; exact hs) hjl
    have e0 : (m[j].2 != 2) = false := by simp [hs]
    have HQ := Lib.hid hs
    clear hb hd hpl hml hbl hra hs
    go_enter Try.func36, Try.ntmps36
    go_wp2_with fail
    rw [← HWA.out]
    refine HC.out.mono ?_
    rintro e w1 ⟨rfl, hb1⟩
    have K1 := Lib.hid hb1
    clear hb1 c0 c1 c2 c3
    obtain ⟨c0, c1, c2, c3⟩ := (P0.out.below K1.out hsz).cells
    go_wp2_with fail
    refine (HCT.out w1 K1.out).mono ?_
    rintro e w2 ⟨rfl, hb2⟩
    have K2 := Lib.hid (bth K1.out hb2 (Nat.le_refl _))
    clear hb2 c0 c1 c2 c3
    obtain ⟨c0, c1, c2, c3⟩ := (P0.out.below K2.out hsz).cells
    obtain ⟨s1, s2⟩ := HM2.out w2 K2.out
    go_wp2_with fail
    refine (first_any ls l bs rs m j _ _ w2 (HVW.out w2 K2.out) (HRW.out w2 K2.out) HPL.out HMB.out hjl).mono ?_
    rintro e w3 ⟨rfl, hb3⟩
    have HB3 := Lib.hid (bth HA.out (bth K2.out hb3 (Nat.le_refl _)) (Nat.le_refl _))
    clear hb3 c0 c1 c2 c3 s1 s2
    go_wp2_with fail
    go_ret2
    exact ⟨by rw [HT.out] <;> rfl, HB3.out⟩
  · have HT : Hid (blockA ls l bs rs m (j : Int) = (0, false)) := block_un (by rw [hra]; exact hs)
    have e0 : (m[j].2 != 2) = true := by simp [hs]
    clear hb hd hpl hml hbl hra hs
    go_enter Try.func36, Try.ntmps36
    go_wp2_with fail
    rw [← HWA.out]
    refine HC.out.mono ?_
    rintro e w1 ⟨rfl, hb1⟩
    have K1 := Lib.hid hb1
    clear hb1 c0 c1 c2 c3
    obtain ⟨c0, c1, c2, c3⟩ := (P0.out.below K1.out hsz).cells
    go_wp2_with fail
    refine (HCT.out w1 K1.out).mono ?_
    rintro e w2 ⟨rfl, hb2⟩
    have K2 := Lib.hid (bth K1.out hb2 (Nat.le_refl _))
    clear hb2 c0 c1 c2 c3
    obtain ⟨c0, c1, c2, c3⟩ := (P0.out.below K2.out hsz).cells
    obtain ⟨s1, s2⟩ := HM2.out w2 K2.out
    go_wp2_with fail
    go_ret2
    exact ⟨by rw [HT.out] <;> rfl, bth HA.out K2.out (Nat.le_refl _)⟩

end Go.Proofs.Ytnkkbleebfijgaa
