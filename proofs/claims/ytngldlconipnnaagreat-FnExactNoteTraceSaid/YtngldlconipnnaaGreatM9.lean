/- Texts of one claim, joined in their order. -/
import Derived.Test.YtngldlconipnnaaGreatM8
import Derived.Test.YtngldlconipnnaaGreatM5

/- Walks: whether traces are good, of both. -/
namespace Go.Proofs.YtngldlconipnnaaGreat
open Go.RowKit Pth

theorem goodT_noP {ls : List (List Int)} {l : List Int} {bs : List Bool} {rs : List (List OpT)} {T : List TrT} (h : planA ls l bs rs = false) : goodT ls l bs rs T = false := by unfold goodT; rw [h]; rfl
theorem goodT_many {ls : List (List Int)} {l : List Int} {bs : List Bool} {rs : List (List OpT)} {T : List TrT} (h : ¬ T.length ≤ 40) : goodT ls l bs rs T = false := by unfold goodT; rw [decide_eq_false h]; simp
theorem trP_next {ls : List (List Int)} {bs : List Bool} {T : List TrT} {k : Nat} (h : ∀ j, j < k → trP ls bs T j = true) (hk : trP ls bs T k = true) : ∀ j, j < k + 1 → trP ls bs T j = true := fun j hj => by
  rcases Nat.lt_or_ge j k with h1 | h1
  · exact h j h1
  · rw [show j = k by omega]; exact hk
theorem trP_take {ls : List (List Int)} {bs : List Bool} {T : List TrT} {k : Nat} (h : ∀ j, j < k → trP ls bs T j = true) (hk : k ≤ T.length) : ∀ t ∈ T.take k, traceA ls bs t = true := fun t ht => by
  obtain ⟨j, hj, rfl⟩ := List.getElem_of_mem ht
  rw [List.length_take] at hj
  have := h j (by omega)
  rw [trP_at (by omega), Bool.and_eq_true] at this
  rw [List.getElem_take]; exact this.1

set_option maxRecDepth 20000 in
set_option maxHeartbeats 8000000 in
theorem specGood9_any (ls : List (List Int)) (l : List Int) (bs : List Bool) (rs : List (List OpT)) (T : List TrT) (v x : Value) (w : World) (hp : PlanV w v ls l bs rs) (hT : RowT w x T) (hx : ∀ l ∈ rs, ∀ f ∈ l, f.2.2.length ≤ maxLen) (hxT : ∀ t ∈ T, HeldT maxLen t) :
    Calls Tryz.prog 24 #[v, x] w (BoolPost (goodT ls l bs rs T) w) := by
  have HV := Lib.hid hp
  obtain ⟨nv, ov, sv, rv, rfl, h1, h2, h3, h4⟩ := hp
  obtain ⟨as0, cs, rfl, hs1, hs2, hats⟩ := h3.boolsW
  obtain ⟨an, cn, rfl, hn1, hn2, hatn⟩ := h1.lists
  obtain ⟨ao, co, rfl, ho1, ho2, hato⟩ := h2.ints
  obtain ⟨ar, cr, rfl, hr1, hr2, hatr⟩ := h4.lists
  clear h1 h2 h3 h4
  unfold maxLen at hs2 hn2 ho2 hr2
  obtain ⟨wa, hwa⟩ : ∃ wa, wa = w.alloc (.cells #[.slice an ls.length cn, .slice ao l.length co, .slice as0 bs.length cs, .slice ar rs.length cr] 45) := ⟨_, rfl⟩
  have hsz : w.heap.size < wa.heap.size := by rw [hwa]; simp
  have P0 : Hid (Blk4 wa w.heap.size 45 (.slice an ls.length cn) (.slice ao l.length co) (.slice as0 bs.length cs) (.slice ar rs.length cr)) := by rw [hwa]; exact Blk4.new
  have HA : Hid (Below w.heap.size w wa) := by rw [hwa]; exact (Below.refl w.heap.size w).alloc (Nat.le_refl _) _
  have HWA : Hid (w.alloc (.cells #[.slice an ls.length cn, .slice ao l.length co, .slice as0 bs.length cs, .slice ar rs.length cr] 45) = wa) := by rw [hwa]; rfl
  have HVW : Hid (∀ W, Below wa.heap.size wa W → PlanV W (.agg #[.slice an ls.length cn, .slice ao l.length co, .slice as0 bs.length cs, .slice ar rs.length cr]) ls l bs rs) := fun W h => HV.out.below (bth HA.out h (Nat.le_refl _))
  clear hwa
  have HTR := Lib.hid hT
  obtain ⟨a, cap, rfl, hc1, hc2, hat⟩ := hT.traces
  unfold maxLen at hc2
  have HAT := Lib.hid hat
  have HXT := Lib.hid hxT
  obtain ⟨R, hR⟩ : ∃ R, goodT ls l bs rs T = R := ⟨_, rfl⟩
  have HRR := Lib.hid hR
  rw [hR]
  obtain ⟨b, hb⟩ : ∃ b, planA ls l bs rs = b := ⟨_, rfl⟩
  have HC := Lib.hid (specPlan_b hb _ wa (HVW.out wa (Below.refl _ _)) hx)
  have HPL := Lib.hid hb
  obtain ⟨c0, c1, c2', c3⟩ := P0.out.cells
  clear hT hat hxT hR hb hx hats hatn hato hatr
  rcases b with _ | _
  · have HE : Hid (R = false) := by rw [← HRR.out]; exact goodT_noP HPL.out
    go_enter Tryz.func24, Tryz.ntmps24
    go_wp2_with fail
    rw [HWA.out]
    refine HC.out.mono ?_
    rintro e w1 ⟨rfl, hb1⟩
    have HB1 := Lib.hid (bth HA.out hb1 (Nat.le_refl _))
    clear hb1 c0 c1 c2' c3
    go_wp2_with fail
    go_ret
    exact ⟨by rw [HE.out] <;> rfl, HB1.out⟩
  by_cases h40 : T.length ≤ 40
  · have hd : decide ((T.length : Int) > 40) = false := by simp; omega
    have H40 := Lib.hid h40
    go_enter Tryz.func24, Tryz.ntmps24
    go_wp2_with fail
    rw [HWA.out]
    refine HC.out.mono ?_
    rintro e w1 ⟨rfl, hb1⟩
    have HB1 := Lib.hid hb1
    clear hb1 c0 c1 c2' c3 HC
    go_wp2_with fail
    go_loopw [17] (fun i wr => ∃ k : Nat, k ≤ T.length ∧ i = .int .i64 k ∧ Hid (Below wa.heap.size wa wr) ∧ Hid (∀ j, j < k → trP ls bs T j = true)) (fun i _ => T.length - (intOf i).toNat)
    case atStart => exact ⟨0, Nat.zero_le _, rfl, HB1, fun j hj => by omega⟩
    case round =>
      clear HB1
      obtain ⟨k, hk, rfl, HB, HO⟩ := hrel
      have HBW := Lib.hid (bth HA.out HB.out (Nat.le_refl _))
      by_cases hlt : k < T.length
      · obtain ⟨g, o, a2, c2, rfl, hg, ⟨k0, k1, k2, k3⟩, hrk⟩ := HAT.out k hlt
        have s0 := (HBW.out.cell (p := ⟨g, o + k * 4, none⟩) hg).trans k0
        have s1 := (HBW.out.cell (p := ⟨g, o + k * 4 + 1, none⟩) hg).trans k1
        have s2 := (HBW.out.cell (p := ⟨g, o + k * 4 + 2, none⟩) hg).trans k2
        have s3 := (HBW.out.cell (p := ⟨g, o + k * 4 + 3, none⟩) hg).trans k3
        have hltz : (k : Int) < (T.length : Int) := by omega
        have hkc : (k : Int) ≤ (cap : Int) := by omega
        have HTP : Hid (trP ls bs T k = (traceA ls bs T[k] && (findT (T.take k) T[k].1 T[k].2.1).isNone)) := trP_at hlt
        have HQ : Hid (decide (0 ≤ findK (T.take k) T[k].1 T[k].2.1) = (findT (T.take k) T[k].1 T[k].2.1).isSome) := isSome_findK _ _ _
        obtain ⟨bt, hbt⟩ : ∃ bt, traceA ls bs T[k] = bt := ⟨_, rfl⟩
        have HC1 := Lib.hid (fun W (h : Below w.heap.size w W) => specTrace9_b ls l bs rs T[k] hbt _ (trV (.slice a2 T[k].2.1.length c2) T[k]) W (HV.out.below h) ⟨a2, c2, rfl, hrk.below h⟩ HPL.out (HXT.out _ (List.getElem_mem hlt)))
        have HC2 : Hid (bt = true → ∀ W, Below w.heap.size w W → Calls Tryz.prog 53 #[.slice (some ⟨g, o, none⟩) k cap, .int .i64 T[k].1, .slice a2 T[k].2.1.length c2] W fun e w' => e = .returned (.int .i64 (findK (T.take k) T[k].1 T[k].2.1)) ∧ Below W.heap.size W w') := fun ht W h => by
          exact specFind_any (T.take k) T[k].1 T[k].2.1 _ _ W ((HTR.out.below h).front rfl k (by omega)) (hrk.below h)
        rw [hbt] at HTP
        have hsr := Nat.lt_of_lt_of_le hsz HB.out.size
        clear k0 k1 k2 k3 hrk hbt HAT HXT HTR
        generalize findT (T.take k) T[k].1 T[k].2.1 = fo at *
        generalize findK (T.take k) T[k].1 T[k].2.1 = q at *
        generalize T[k] = z at *
        obtain ⟨x1, xi, x2, x3⟩ := z
        unfold trV at HC1
        simp only at s0 s1 s2 s3 HC1 HC2
        generalize xi.length = nx at *
        obtain ⟨wx, hwx⟩ : ∃ wx, wx = wr.alloc (.cells #[.int .i64 x1, .slice a2 nx c2, .string ⟨x2.toArray⟩, .int .i64 x3] 50) := ⟨_, rfl⟩
        have hxb : Below wr.heap.size wr wx := by rw [hwx]; exact (Below.refl wr.heap.size wr).alloc (Nat.le_refl _) _
        have hltx : wr.heap.size < wx.drew.heap.size := by show _ < wx.heap.size; rw [hwx]; simp
        have hltp : w.heap.size < wx.drew.heap.size := by omega
        have XD : Hid (Blk4 wx.drew wr.heap.size 50 (.int .i64 x1) (.slice a2 nx c2) (.string ⟨x2.toArray⟩) (.int .i64 x3)) := by show Blk4 wx _ _ _ _ _ _; rw [hwx]; exact Blk4.new
        have HBX := Lib.hid (bth HB.out hxb (Nat.le_refl _))
        have PD : Hid (Blk4 wx.drew w.heap.size 45 (.slice an ls.length cn) (.slice ao l.length co) (.slice as0 bs.length cs) (.slice ar rs.length cr)) := P0.out.below (Below.drew HBX.out) hsz
        have HBD := Lib.hid (bth HA.out (Below.drew HBX.out) (Nat.le_refl _))
        have HWX : Hid (wr.alloc (.cells #[.int .i64 x1, .slice a2 nx c2, .string ⟨x2.toArray⟩, .int .i64 x3] 50) = wx) := by rw [hwx]; rfl
        have ks := And.intro PD.out.cells XD.out.cells
        clear hwx hxb
        rcases bt with _ | _
        · have HE : Hid (R = false) := by rw [← HRR.out]; exact goodT_not hlt (by rw [HTP.out]; rfl)
          clear HC2 HQ HTP
          go_wp2_with fail
          rw [HWX.out]
          refine wp_region_held_drew (S := fun w' => (w'.cell? ⟨w.heap.size, 0, none⟩ = some (.slice an ls.length cn) ∧ w'.cell? ⟨w.heap.size, 1, none⟩ = some (.slice ao l.length co) ∧ w'.cell? ⟨w.heap.size, 2, none⟩ = some (.slice as0 bs.length cs) ∧ w'.cell? ⟨w.heap.size, 3, none⟩ = some (.slice ar rs.length cr)) ∧ (w'.cell? ⟨wr.heap.size, 0, none⟩ = some (.int .i64 x1) ∧ w'.cell? ⟨wr.heap.size, 1, none⟩ = some (.slice a2 nx c2) ∧ w'.cell? ⟨wr.heap.size, 2, none⟩ = some (.string ⟨x2.toArray⟩) ∧ w'.cell? ⟨wr.heap.size, 3, none⟩ = some (.int .i64 x3))) (by kernel_rfl) ks (fun hS0 => ?_)
          change wpAnyH _ _ _ _ _ 15 #[false, false, false, false, false, false, false, false, false, false, false, false, false, false, false] _ _
          refine wpAnyH_take (i := 0) (v := ?v0) rfl (by kernel_rfl) (by kernel_rfl) (by kernel_rfl) (fun _ _ _ h => h) (Or.inl ⟨rfl, ?y0⟩) (by assumption) ?r0
          case y0 => (intro w' hSw; (try dsimp only at hSw); go_simp; (try with_reducible rfl))
          try simp only [List.getElem_toArray, List.getElem_cons_zero, Act.put, List.setIfInBounds_toArray, List.set_cons_zero, List.set_cons_succ]
          refine wpAnyH_take (i := 1) (v := ?v1) rfl (by kernel_rfl) (by kernel_rfl) (by kernel_rfl) (fun _ _ _ h => h) (Or.inl ⟨rfl, ?y1⟩) (by assumption) ?r1
          case y1 => (intro w' hSw; (try dsimp only at hSw); go_simp; (try with_reducible rfl))
          try simp only [List.getElem_toArray, List.getElem_cons_succ, List.getElem_cons_zero, Act.put, List.setIfInBounds_toArray, List.set_cons_zero, List.set_cons_succ]
          refine wpAnyH_ready (rs := [2]) (by kernel_rfl) (by simp) ?_
          refine AllReadyH.cons rfl (fun K' hK => ?_) AllReadyH.nil
          go_simp
          go_wp2_with (go_at_call 25; refine (HC1.out _ (by exact HBD.out)).mono ?_; rintro e w7 ⟨rfl, hb7⟩
                       have k7 := And.intro (PD.out.below hb7 hltp).cells (XD.out.below hb7 hltx).cells
                       have D7 := Lib.hid (bth HBD.out hb7 (Nat.le_refl _))
                       clear hb7)
          refine hK.out _ _ k7 (fun hS1 => ?_)
          clear hK
          try simp only [List.setIfInBounds_toArray, List.set_cons_zero, List.set_cons_succ]
          refine wpAnyH_take (i := 3) (v := ?v3) rfl (by kernel_rfl) (by kernel_rfl) (by kernel_rfl) (fun _ _ _ h => h) (Or.inl ⟨rfl, ?y3⟩) (by assumption) ?r3
          case y3 => (intro w' hSw; (try dsimp only at hSw); go_simp; (try with_reducible rfl))
          try simp only [List.getElem_toArray, List.getElem_cons_succ, List.getElem_cons_zero, Act.put, List.setIfInBounds_toArray, List.set_cons_zero, List.set_cons_succ]
          refine wpAnyH_take (i := 4) (v := ?v4) rfl (by kernel_rfl) (by kernel_rfl) (by kernel_rfl) (fun _ _ _ h => h) (Or.inl ⟨rfl, ?y4⟩) (by assumption) ?r4
          case y4 => (intro w' hSw; (try dsimp only at hSw); go_simp; (try with_reducible rfl))
          try simp only [List.getElem_toArray, List.getElem_cons_succ, List.getElem_cons_zero, Act.put, List.setIfInBounds_toArray, List.set_cons_zero, List.set_cons_succ]
          refine wpAnyH_take (i := 5) (v := undef) rfl (by kernel_rfl) (by kernel_rfl) (by kernel_rfl) (fun _ _ _ h => h) (Or.inr ⟨rfl, rfl⟩) (by assumption) ?r5
          try simp only [List.getElem_toArray, List.getElem_cons_succ, List.getElem_cons_zero, Act.put, List.setIfInBounds_toArray, List.set_cons_zero, List.set_cons_succ]
          refine wpAnyH_take (i := 6) (v := undef) rfl (by kernel_rfl) (by kernel_rfl) (by kernel_rfl) (fun _ _ _ h => h) (Or.inr ⟨rfl, rfl⟩) (by assumption) ?r6
          try simp only [List.getElem_toArray, List.getElem_cons_succ, List.getElem_cons_zero, Act.put, List.setIfInBounds_toArray, List.set_cons_zero, List.set_cons_succ]
          refine wpAnyH_take (i := 7) (v := undef) rfl (by kernel_rfl) (by kernel_rfl) (by kernel_rfl) (fun _ _ _ h => h) (Or.inr ⟨rfl, rfl⟩) (by assumption) ?r7
          try simp only [List.getElem_toArray, List.getElem_cons_succ, List.getElem_cons_zero, Act.put, List.setIfInBounds_toArray, List.set_cons_zero, List.set_cons_succ]
          refine wpAnyH_take (i := 8) (v := undef) rfl (by kernel_rfl) (by kernel_rfl) (by kernel_rfl) (fun _ _ _ h => h) (Or.inr ⟨rfl, rfl⟩) (by assumption) ?r8
          try simp only [List.getElem_toArray, List.getElem_cons_succ, List.getElem_cons_zero, Act.put, List.setIfInBounds_toArray, List.set_cons_zero, List.set_cons_succ]
          refine wpAnyH_take (i := 9) (v := undef) rfl (by kernel_rfl) (by kernel_rfl) (by kernel_rfl) (fun _ _ _ h => h) (Or.inr ⟨rfl, rfl⟩) (by assumption) ?r9
          try simp only [List.getElem_toArray, List.getElem_cons_succ, List.getElem_cons_zero, Act.put, List.setIfInBounds_toArray, List.set_cons_zero, List.set_cons_succ]
          refine wpAnyH_take (i := 10) (v := undef) rfl (by kernel_rfl) (by kernel_rfl) (by kernel_rfl) (fun _ _ _ h => h) (Or.inr ⟨rfl, rfl⟩) (by assumption) ?r10
          try simp only [List.getElem_toArray, List.getElem_cons_succ, List.getElem_cons_zero, Act.put, List.setIfInBounds_toArray, List.set_cons_zero, List.set_cons_succ]
          refine wpAnyH_take (i := 11) (v := undef) rfl (by kernel_rfl) (by kernel_rfl) (by kernel_rfl) (fun _ _ _ h => h) (Or.inr ⟨rfl, rfl⟩) (by assumption) ?r11
          try simp only [List.getElem_toArray, List.getElem_cons_succ, List.getElem_cons_zero, Act.put, List.setIfInBounds_toArray, List.set_cons_zero, List.set_cons_succ]
          refine wpAnyH_take (i := 12) (v := undef) rfl (by kernel_rfl) (by kernel_rfl) (by kernel_rfl) (fun _ _ _ h => h) (Or.inr ⟨rfl, rfl⟩) (by assumption) ?r12
          try simp only [List.getElem_toArray, List.getElem_cons_succ, List.getElem_cons_zero, Act.put, List.setIfInBounds_toArray, List.set_cons_zero, List.set_cons_succ]
          refine wpAnyH_take (i := 13) (v := undef) rfl (by kernel_rfl) (by kernel_rfl) (by kernel_rfl) (fun _ _ _ h => h) (Or.inr ⟨rfl, rfl⟩) (by assumption) ?r13
          try simp only [List.getElem_toArray, List.getElem_cons_succ, List.getElem_cons_zero, Act.put, List.setIfInBounds_toArray, List.set_cons_zero, List.set_cons_succ]
          refine wpAnyH_take (i := 14) (v := ?v14) rfl (by kernel_rfl) (by kernel_rfl) (by kernel_rfl) (fun _ _ _ h => h) (Or.inl ⟨rfl, ?y14⟩) (by assumption) ?r14
          case y14 => (intro w' hSw; (try dsimp only at hSw); go_simp; (try with_reducible rfl))
          try simp only [List.getElem_toArray, List.getElem_cons_succ, List.getElem_cons_zero, Act.put, List.setIfInBounds_toArray, List.set_cons_zero, List.set_cons_succ]
          refine wpAnyH_done (by kernel_rfl) ?_ _
          go_wp2_with fail
          go_ret
          exact ⟨by rw [HE.out] <;> rfl, D7.out⟩
        · have HC3 := Lib.hid (HC2.out rfl)
          clear HC2
          rcases fo with _ | fo
          · have hq : ¬ (0 ≤ q) := by have := HQ.out; simpa using this
            have HO2 := Lib.hid (trP_next HO.out (by rw [HTP.out]; rfl))
            clear HQ HTP HO
            go_wp2_with fail
            rw [HWX.out]
            go_region_held3 (fun w' => (w'.cell? ⟨w.heap.size, 0, none⟩ = some (.slice an ls.length cn) ∧ w'.cell? ⟨w.heap.size, 1, none⟩ = some (.slice ao l.length co) ∧ w'.cell? ⟨w.heap.size, 2, none⟩ = some (.slice as0 bs.length cs) ∧ w'.cell? ⟨w.heap.size, 3, none⟩ = some (.slice ar rs.length cr)) ∧ (w'.cell? ⟨wr.heap.size, 0, none⟩ = some (.int .i64 x1) ∧ w'.cell? ⟨wr.heap.size, 1, none⟩ = some (.slice a2 nx c2) ∧ w'.cell? ⟨wr.heap.size, 2, none⟩ = some (.string ⟨x2.toArray⟩) ∧ w'.cell? ⟨wr.heap.size, 3, none⟩ = some (.int .i64 x3))) (first | exact ks)
          (first
            | (go_at_call 25; refine (HC1.out _ (by exact HBD.out)).mono ?_; rintro e w7 ⟨rfl, hb7⟩
               have ks := And.intro (PD.out.below hb7 hltp).cells (XD.out.below hb7 hltx).cells
               have C7 := Lib.hid hb7
               have D7 := Lib.hid (bth HBD.out hb7 (Nat.le_refl _))
               clear hb7)
            | (go_at_call 53; refine (HC3.out _ (by exact D7.out)).mono ?_; rintro e w8 ⟨rfl, hb8⟩
               have C8 := Lib.hid (bth C7.out hb8 (Nat.le_refl _))
               have ks := And.intro (PD.out.below C8.out hltp).cells (XD.out.below C8.out hltx).cells
               have D8 := Lib.hid (bth D7.out hb8 (Nat.le_refl _))
               clear hb8))
            have HB8 := Lib.hid (bth (Below.drew HBX.out) C8.out (Nat.le_refl _))
            clear ks C7 C8 D7 D8 PD XD HBD
            go_wp2_with fail
            go_roundw
            case rel => exact ⟨k + 1, by omega, by go_num, HB8, HO2⟩
            case measure => simp [intOf]; omega
          · have hq : 0 ≤ q := by have := HQ.out; simpa using this
            have HE : Hid (R = false) := by rw [← HRR.out]; exact goodT_not hlt (by rw [HTP.out]; rfl)
            clear HQ HTP HO
            go_wp2_with fail
            rw [HWX.out]
            go_region_held3 (fun w' => (w'.cell? ⟨w.heap.size, 0, none⟩ = some (.slice an ls.length cn) ∧ w'.cell? ⟨w.heap.size, 1, none⟩ = some (.slice ao l.length co) ∧ w'.cell? ⟨w.heap.size, 2, none⟩ = some (.slice as0 bs.length cs) ∧ w'.cell? ⟨w.heap.size, 3, none⟩ = some (.slice ar rs.length cr)) ∧ (w'.cell? ⟨wr.heap.size, 0, none⟩ = some (.int .i64 x1) ∧ w'.cell? ⟨wr.heap.size, 1, none⟩ = some (.slice a2 nx c2) ∧ w'.cell? ⟨wr.heap.size, 2, none⟩ = some (.string ⟨x2.toArray⟩) ∧ w'.cell? ⟨wr.heap.size, 3, none⟩ = some (.int .i64 x3))) (first | exact ks)
          (first
            | (go_at_call 25; refine (HC1.out _ (by exact HBD.out)).mono ?_; rintro e w7 ⟨rfl, hb7⟩
               have ks := And.intro (PD.out.below hb7 hltp).cells (XD.out.below hb7 hltx).cells
               have C7 := Lib.hid hb7
               have D7 := Lib.hid (bth HBD.out hb7 (Nat.le_refl _))
               clear hb7)
            | (go_at_call 53; refine (HC3.out _ (by exact D7.out)).mono ?_; rintro e w8 ⟨rfl, hb8⟩
               have C8 := Lib.hid (bth C7.out hb8 (Nat.le_refl _))
               have ks := And.intro (PD.out.below C8.out hltp).cells (XD.out.below C8.out hltx).cells
               have D8 := Lib.hid (bth D7.out hb8 (Nat.le_refl _))
               clear hb8))
            have HB8 := Lib.hid D8.out
            clear ks C7 C8 D7 D8 PD XD HBD
            go_wp2_with fail
            go_ret
            exact ⟨by rw [HE.out] <;> rfl, HB8.out⟩
      · have hltz : ¬ ((k : Int) < (T.length : Int)) := by omega
        have HE : Hid (R = true) := by rw [← HRR.out]; exact goodT_of HPL.out H40.out (fun j hj => HO.out j (by omega))
        clear HAT HXT HO HTR
        go_wp2_with fail
        go_ret
        exact ⟨by rw [HE.out] <;> rfl, HBW.out⟩
  · have hd : decide ((T.length : Int) > 40) = true := by simp; omega
    have HE : Hid (R = false) := by rw [← HRR.out]; exact goodT_many h40
    clear HAT HXT HTR h40
    go_enter Tryz.func24, Tryz.ntmps24
    go_wp2_with fail
    rw [HWA.out]
    refine HC.out.mono ?_
    rintro e w1 ⟨rfl, hb1⟩
    have HB1 := Lib.hid (bth HA.out hb1 (Nat.le_refl _))
    clear hb1 c0 c1 c2' c3
    go_wp2_with fail
    go_ret
    exact ⟨by rw [HE.out] <;> rfl, HB1.out⟩
theorem specGood9_b {ls : List (List Int)} {l : List Int} {bs : List Bool} {rs : List (List OpT)} {T : List TrT} {b : Bool} (h : goodT ls l bs rs T = b) (v x : Value) (w : World) (hp : PlanV w v ls l bs rs) (hT : RowT w x T) (hx : ∀ l ∈ rs, ∀ f ∈ l, f.2.2.length ≤ maxLen) (hxT : ∀ t ∈ T, HeldT maxLen t) :
    Calls Tryz.prog 24 #[v, x] w (BoolPost b w) := by
  subst h
  exact specGood9_any ls l bs rs T v x w hp hT hx hxT

set_option maxRecDepth 20000 in
set_option maxHeartbeats 8000000 in
theorem implGood9_any (ls : List (List Int)) (l : List Int) (bs : List Bool) (rs : List (List OpT)) (T : List TrT) (v x : Value) (w : World) (hp : PlanV w v ls l bs rs) (hT : RowT w x T) (hx : ∀ l ∈ rs, ∀ f ∈ l, f.2.2.length ≤ maxLen) (hxT : ∀ t ∈ T, HeldT maxLen t) :
    Calls Tryz.prog 33 #[v, x] w (BoolPost (goodT ls l bs rs T) w) := by
  have HV := Lib.hid hp
  obtain ⟨nv, ov, sv, rv, rfl, h1, h2, h3, h4⟩ := hp
  obtain ⟨as0, cs, rfl, hs1, hs2, hats⟩ := h3.boolsW
  obtain ⟨an, cn, rfl, hn1, hn2, hatn⟩ := h1.lists
  obtain ⟨ao, co, rfl, ho1, ho2, hato⟩ := h2.ints
  obtain ⟨ar, cr, rfl, hr1, hr2, hatr⟩ := h4.lists
  clear h1 h2 h3 h4
  unfold maxLen at hs2 hn2 ho2 hr2
  obtain ⟨wa, hwa⟩ : ∃ wa, wa = w.alloc (.cells #[.slice an ls.length cn, .slice ao l.length co, .slice as0 bs.length cs, .slice ar rs.length cr] 45) := ⟨_, rfl⟩
  have hsz : w.heap.size < wa.heap.size := by rw [hwa]; simp
  have P0 : Hid (Blk4 wa w.heap.size 45 (.slice an ls.length cn) (.slice ao l.length co) (.slice as0 bs.length cs) (.slice ar rs.length cr)) := by rw [hwa]; exact Blk4.new
  have HA : Hid (Below w.heap.size w wa) := by rw [hwa]; exact (Below.refl w.heap.size w).alloc (Nat.le_refl _) _
  have HWA : Hid (w.alloc (.cells #[.slice an ls.length cn, .slice ao l.length co, .slice as0 bs.length cs, .slice ar rs.length cr] 45) = wa) := by rw [hwa]; rfl
  have HVW : Hid (∀ W, Below wa.heap.size wa W → PlanV W (.agg #[.slice an ls.length cn, .slice ao l.length co, .slice as0 bs.length cs, .slice ar rs.length cr]) ls l bs rs) := fun W h => HV.out.below (bth HA.out h (Nat.le_refl _))
  clear hwa
  have HTR := Lib.hid hT
  obtain ⟨a, cap, rfl, hc1, hc2, hat⟩ := hT.traces
  unfold maxLen at hc2
  have HAT := Lib.hid hat
  have HXT := Lib.hid hxT
  obtain ⟨R, hR⟩ : ∃ R, goodT ls l bs rs T = R := ⟨_, rfl⟩
  have HRR := Lib.hid hR
  rw [hR]
  obtain ⟨b, hb⟩ : ∃ b, planA ls l bs rs = b := ⟨_, rfl⟩
  have HC := Lib.hid (implPlan_b hb _ wa (HVW.out wa (Below.refl _ _)) hx)
  have HPL := Lib.hid hb
  obtain ⟨c0, c1, c2', c3⟩ := P0.out.cells
  clear hT hat hxT hR hb hx hats hatn hato hatr
  rcases b with _ | _
  · have HE : Hid (R = false) := by rw [← HRR.out]; exact goodT_noP HPL.out
    go_enter Tryz.func33, Tryz.ntmps33
    go_wp2_with fail
    rw [HWA.out]
    refine HC.out.mono ?_
    rintro e w1 ⟨rfl, hb1⟩
    have HB1 := Lib.hid (bth HA.out hb1 (Nat.le_refl _))
    clear hb1 c0 c1 c2' c3
    go_wp2_with fail
    go_ret
    exact ⟨by rw [HE.out] <;> rfl, HB1.out⟩
  by_cases h40 : T.length ≤ 40
  · have hd : decide ((T.length : Int) > 40) = false := by simp; omega
    have H40 := Lib.hid h40
    go_enter Tryz.func33, Tryz.ntmps33
    go_wp2_with fail
    rw [HWA.out]
    refine HC.out.mono ?_
    rintro e w1 ⟨rfl, hb1⟩
    have HB1 := Lib.hid hb1
    clear hb1 c0 c1 c2' c3 HC
    go_wp2_with fail
    go_loopw [17] (fun i wr => ∃ k : Nat, k ≤ T.length ∧ i = .int .i64 k ∧ Hid (Below wa.heap.size wa wr) ∧ Hid (∀ j, j < k → trP ls bs T j = true)) (fun i _ => T.length - (intOf i).toNat)
    case atStart => exact ⟨0, Nat.zero_le _, rfl, HB1, fun j hj => by omega⟩
    case round =>
      clear HB1
      obtain ⟨k, hk, rfl, HB, HO⟩ := hrel
      have HBW := Lib.hid (bth HA.out HB.out (Nat.le_refl _))
      by_cases hlt : k < T.length
      · obtain ⟨g, o, a2, c2, rfl, hg, ⟨k0, k1, k2, k3⟩, hrk⟩ := HAT.out k hlt
        have s0 := (HBW.out.cell (p := ⟨g, o + k * 4, none⟩) hg).trans k0
        have s1 := (HBW.out.cell (p := ⟨g, o + k * 4 + 1, none⟩) hg).trans k1
        have s2 := (HBW.out.cell (p := ⟨g, o + k * 4 + 2, none⟩) hg).trans k2
        have s3 := (HBW.out.cell (p := ⟨g, o + k * 4 + 3, none⟩) hg).trans k3
        have hltz : (k : Int) < (T.length : Int) := by omega
        have hkc : (k : Int) ≤ (cap : Int) := by omega
        have HTP : Hid (trP ls bs T k = (traceA ls bs T[k] && (findT (T.take k) T[k].1 T[k].2.1).isNone)) := trP_at hlt
        have HQ : Hid (decide (0 ≤ findK (T.take k) T[k].1 T[k].2.1) = (findT (T.take k) T[k].1 T[k].2.1).isSome) := isSome_findK _ _ _
        obtain ⟨bt, hbt⟩ : ∃ bt, traceA ls bs T[k] = bt := ⟨_, rfl⟩
        have HC1 := Lib.hid (fun W (h : Below w.heap.size w W) => implTrace_b ls l bs rs T[k] hbt _ (trV (.slice a2 T[k].2.1.length c2) T[k]) W (HV.out.below h) ⟨a2, c2, rfl, hrk.below h⟩ HPL.out (HXT.out _ (List.getElem_mem hlt)))
        have HC2 : Hid (bt = true → ∀ W, Below w.heap.size w W → Calls Tryz.prog 60 #[.slice (some ⟨g, o, none⟩) k cap, .int .i64 T[k].1, .slice a2 T[k].2.1.length c2] W fun e w' => e = .returned (.int .i64 (findK (T.take k) T[k].1 T[k].2.1)) ∧ Below W.heap.size W w') := fun ht W h => by
          have hta := traceA_parts (hbt.trans ht)
          have hin := insOk_parts hta.1
          exact placeOf_any (T.take k) T[k].1 T[k].2.1 _ _ W ((HTR.out.below h).front rfl k (by omega)) (hrk.below h) (texts_parts hin.2.2.2.2).2 (same_of (trP_take HO.out (by omega)) hta.1)
        rw [hbt] at HTP
        have hsr := Nat.lt_of_lt_of_le hsz HB.out.size
        clear k0 k1 k2 k3 hrk hbt HAT HXT HTR
        generalize findT (T.take k) T[k].1 T[k].2.1 = fo at *
        generalize findK (T.take k) T[k].1 T[k].2.1 = q at *
        generalize T[k] = z at *
        obtain ⟨x1, xi, x2, x3⟩ := z
        unfold trV at HC1
        simp only at s0 s1 s2 s3 HC1 HC2
        generalize xi.length = nx at *
        obtain ⟨wx, hwx⟩ : ∃ wx, wx = wr.alloc (.cells #[.int .i64 x1, .slice a2 nx c2, .string ⟨x2.toArray⟩, .int .i64 x3] 50) := ⟨_, rfl⟩
        have hxb : Below wr.heap.size wr wx := by rw [hwx]; exact (Below.refl wr.heap.size wr).alloc (Nat.le_refl _) _
        have hltx : wr.heap.size < wx.drew.heap.size := by show _ < wx.heap.size; rw [hwx]; simp
        have hltp : w.heap.size < wx.drew.heap.size := by omega
        have XD : Hid (Blk4 wx.drew wr.heap.size 50 (.int .i64 x1) (.slice a2 nx c2) (.string ⟨x2.toArray⟩) (.int .i64 x3)) := by show Blk4 wx _ _ _ _ _ _; rw [hwx]; exact Blk4.new
        have HBX := Lib.hid (bth HB.out hxb (Nat.le_refl _))
        have PD : Hid (Blk4 wx.drew w.heap.size 45 (.slice an ls.length cn) (.slice ao l.length co) (.slice as0 bs.length cs) (.slice ar rs.length cr)) := P0.out.below (Below.drew HBX.out) hsz
        have HBD := Lib.hid (bth HA.out (Below.drew HBX.out) (Nat.le_refl _))
        have HWX : Hid (wr.alloc (.cells #[.int .i64 x1, .slice a2 nx c2, .string ⟨x2.toArray⟩, .int .i64 x3] 50) = wx) := by rw [hwx]; rfl
        have ks := And.intro PD.out.cells XD.out.cells
        clear hwx hxb
        rcases bt with _ | _
        · have HE : Hid (R = false) := by rw [← HRR.out]; exact goodT_not hlt (by rw [HTP.out]; rfl)
          clear HC2 HQ HTP
          go_wp2_with fail
          rw [HWX.out]
          refine wp_region_held_drew (S := fun w' => (w'.cell? ⟨w.heap.size, 0, none⟩ = some (.slice an ls.length cn) ∧ w'.cell? ⟨w.heap.size, 1, none⟩ = some (.slice ao l.length co) ∧ w'.cell? ⟨w.heap.size, 2, none⟩ = some (.slice as0 bs.length cs) ∧ w'.cell? ⟨w.heap.size, 3, none⟩ = some (.slice ar rs.length cr)) ∧ (w'.cell? ⟨wr.heap.size, 0, none⟩ = some (.int .i64 x1) ∧ w'.cell? ⟨wr.heap.size, 1, none⟩ = some (.slice a2 nx c2) ∧ w'.cell? ⟨wr.heap.size, 2, none⟩ = some (.string ⟨x2.toArray⟩) ∧ w'.cell? ⟨wr.heap.size, 3, none⟩ = some (.int .i64 x3))) (by kernel_rfl) ks (fun hS0 => ?_)
          change wpAnyH _ _ _ _ _ 15 #[false, false, false, false, false, false, false, false, false, false, false, false, false, false, false] _ _
          refine wpAnyH_take (i := 0) (v := ?v0) rfl (by kernel_rfl) (by kernel_rfl) (by kernel_rfl) (fun _ _ _ h => h) (Or.inl ⟨rfl, ?y0⟩) (by assumption) ?r0
          case y0 => (intro w' hSw; (try dsimp only at hSw); go_simp; (try with_reducible rfl))
          try simp only [List.getElem_toArray, List.getElem_cons_zero, Act.put, List.setIfInBounds_toArray, List.set_cons_zero, List.set_cons_succ]
          refine wpAnyH_take (i := 1) (v := ?v1) rfl (by kernel_rfl) (by kernel_rfl) (by kernel_rfl) (fun _ _ _ h => h) (Or.inl ⟨rfl, ?y1⟩) (by assumption) ?r1
          case y1 => (intro w' hSw; (try dsimp only at hSw); go_simp; (try with_reducible rfl))
          try simp only [List.getElem_toArray, List.getElem_cons_succ, List.getElem_cons_zero, Act.put, List.setIfInBounds_toArray, List.set_cons_zero, List.set_cons_succ]
          refine wpAnyH_ready (rs := [2]) (by kernel_rfl) (by simp) ?_
          refine AllReadyH.cons rfl (fun K' hK => ?_) AllReadyH.nil
          go_simp
          go_wp2_with (go_at_call 34; refine (HC1.out _ (by exact HBD.out)).mono ?_; rintro e w7 ⟨rfl, hb7⟩
                       have k7 := And.intro (PD.out.below hb7 hltp).cells (XD.out.below hb7 hltx).cells
                       have D7 := Lib.hid (bth HBD.out hb7 (Nat.le_refl _))
                       clear hb7)
          refine hK.out _ _ k7 (fun hS1 => ?_)
          clear hK
          try simp only [List.setIfInBounds_toArray, List.set_cons_zero, List.set_cons_succ]
          refine wpAnyH_take (i := 3) (v := ?v3) rfl (by kernel_rfl) (by kernel_rfl) (by kernel_rfl) (fun _ _ _ h => h) (Or.inl ⟨rfl, ?y3⟩) (by assumption) ?r3
          case y3 => (intro w' hSw; (try dsimp only at hSw); go_simp; (try with_reducible rfl))
          try simp only [List.getElem_toArray, List.getElem_cons_succ, List.getElem_cons_zero, Act.put, List.setIfInBounds_toArray, List.set_cons_zero, List.set_cons_succ]
          refine wpAnyH_take (i := 4) (v := ?v4) rfl (by kernel_rfl) (by kernel_rfl) (by kernel_rfl) (fun _ _ _ h => h) (Or.inl ⟨rfl, ?y4⟩) (by assumption) ?r4
          case y4 => (intro w' hSw; (try dsimp only at hSw); go_simp; (try with_reducible rfl))
          try simp only [List.getElem_toArray, List.getElem_cons_succ, List.getElem_cons_zero, Act.put, List.setIfInBounds_toArray, List.set_cons_zero, List.set_cons_succ]
          refine wpAnyH_take (i := 5) (v := undef) rfl (by kernel_rfl) (by kernel_rfl) (by kernel_rfl) (fun _ _ _ h => h) (Or.inr ⟨rfl, rfl⟩) (by assumption) ?r5
          try simp only [List.getElem_toArray, List.getElem_cons_succ, List.getElem_cons_zero, Act.put, List.setIfInBounds_toArray, List.set_cons_zero, List.set_cons_succ]
          refine wpAnyH_take (i := 6) (v := undef) rfl (by kernel_rfl) (by kernel_rfl) (by kernel_rfl) (fun _ _ _ h => h) (Or.inr ⟨rfl, rfl⟩) (by assumption) ?r6
          try simp only [List.getElem_toArray, List.getElem_cons_succ, List.getElem_cons_zero, Act.put, List.setIfInBounds_toArray, List.set_cons_zero, List.set_cons_succ]
          refine wpAnyH_take (i := 7) (v := undef) rfl (by kernel_rfl) (by kernel_rfl) (by kernel_rfl) (fun _ _ _ h => h) (Or.inr ⟨rfl, rfl⟩) (by assumption) ?r7
          try simp only [List.getElem_toArray, List.getElem_cons_succ, List.getElem_cons_zero, Act.put, List.setIfInBounds_toArray, List.set_cons_zero, List.set_cons_succ]
          refine wpAnyH_take (i := 8) (v := undef) rfl (by kernel_rfl) (by kernel_rfl) (by kernel_rfl) (fun _ _ _ h => h) (Or.inr ⟨rfl, rfl⟩) (by assumption) ?r8
          try simp only [List.getElem_toArray, List.getElem_cons_succ, List.getElem_cons_zero, Act.put, List.setIfInBounds_toArray, List.set_cons_zero, List.set_cons_succ]
          refine wpAnyH_take (i := 9) (v := undef) rfl (by kernel_rfl) (by kernel_rfl) (by kernel_rfl) (fun _ _ _ h => h) (Or.inr ⟨rfl, rfl⟩) (by assumption) ?r9
          try simp only [List.getElem_toArray, List.getElem_cons_succ, List.getElem_cons_zero, Act.put, List.setIfInBounds_toArray, List.set_cons_zero, List.set_cons_succ]
          refine wpAnyH_take (i := 10) (v := undef) rfl (by kernel_rfl) (by kernel_rfl) (by kernel_rfl) (fun _ _ _ h => h) (Or.inr ⟨rfl, rfl⟩) (by assumption) ?r10
          try simp only [List.getElem_toArray, List.getElem_cons_succ, List.getElem_cons_zero, Act.put, List.setIfInBounds_toArray, List.set_cons_zero, List.set_cons_succ]
          refine wpAnyH_take (i := 11) (v := undef) rfl (by kernel_rfl) (by kernel_rfl) (by kernel_rfl) (fun _ _ _ h => h) (Or.inr ⟨rfl, rfl⟩) (by assumption) ?r11
          try simp only [List.getElem_toArray, List.getElem_cons_succ, List.getElem_cons_zero, Act.put, List.setIfInBounds_toArray, List.set_cons_zero, List.set_cons_succ]
          refine wpAnyH_take (i := 12) (v := undef) rfl (by kernel_rfl) (by kernel_rfl) (by kernel_rfl) (fun _ _ _ h => h) (Or.inr ⟨rfl, rfl⟩) (by assumption) ?r12
          try simp only [List.getElem_toArray, List.getElem_cons_succ, List.getElem_cons_zero, Act.put, List.setIfInBounds_toArray, List.set_cons_zero, List.set_cons_succ]
          refine wpAnyH_take (i := 13) (v := undef) rfl (by kernel_rfl) (by kernel_rfl) (by kernel_rfl) (fun _ _ _ h => h) (Or.inr ⟨rfl, rfl⟩) (by assumption) ?r13
          try simp only [List.getElem_toArray, List.getElem_cons_succ, List.getElem_cons_zero, Act.put, List.setIfInBounds_toArray, List.set_cons_zero, List.set_cons_succ]
          refine wpAnyH_take (i := 14) (v := ?v14) rfl (by kernel_rfl) (by kernel_rfl) (by kernel_rfl) (fun _ _ _ h => h) (Or.inl ⟨rfl, ?y14⟩) (by assumption) ?r14
          case y14 => (intro w' hSw; (try dsimp only at hSw); go_simp; (try with_reducible rfl))
          try simp only [List.getElem_toArray, List.getElem_cons_succ, List.getElem_cons_zero, Act.put, List.setIfInBounds_toArray, List.set_cons_zero, List.set_cons_succ]
          refine wpAnyH_done (by kernel_rfl) ?_ _
          go_wp2_with fail
          go_ret
          exact ⟨by rw [HE.out] <;> rfl, D7.out⟩
        · have HC3 := Lib.hid (HC2.out rfl)
          clear HC2
          rcases fo with _ | fo
          · have hq : ¬ (0 ≤ q) := by have := HQ.out; simpa using this
            have HO2 := Lib.hid (trP_next HO.out (by rw [HTP.out]; rfl))
            clear HQ HTP HO
            go_wp2_with fail
            rw [HWX.out]
            go_region_held3 (fun w' => (w'.cell? ⟨w.heap.size, 0, none⟩ = some (.slice an ls.length cn) ∧ w'.cell? ⟨w.heap.size, 1, none⟩ = some (.slice ao l.length co) ∧ w'.cell? ⟨w.heap.size, 2, none⟩ = some (.slice as0 bs.length cs) ∧ w'.cell? ⟨w.heap.size, 3, none⟩ = some (.slice ar rs.length cr)) ∧ (w'.cell? ⟨wr.heap.size, 0, none⟩ = some (.int .i64 x1) ∧ w'.cell? ⟨wr.heap.size, 1, none⟩ = some (.slice a2 nx c2) ∧ w'.cell? ⟨wr.heap.size, 2, none⟩ = some (.string ⟨x2.toArray⟩) ∧ w'.cell? ⟨wr.heap.size, 3, none⟩ = some (.int .i64 x3))) (first | exact ks)
          (first
            | (go_at_call 34; refine (HC1.out _ (by exact HBD.out)).mono ?_; rintro e w7 ⟨rfl, hb7⟩
               have ks := And.intro (PD.out.below hb7 hltp).cells (XD.out.below hb7 hltx).cells
               have C7 := Lib.hid hb7
               have D7 := Lib.hid (bth HBD.out hb7 (Nat.le_refl _))
               clear hb7)
            | (go_at_call 60; refine (HC3.out _ (by exact D7.out)).mono ?_; rintro e w8 ⟨rfl, hb8⟩
               have C8 := Lib.hid (bth C7.out hb8 (Nat.le_refl _))
               have ks := And.intro (PD.out.below C8.out hltp).cells (XD.out.below C8.out hltx).cells
               have D8 := Lib.hid (bth D7.out hb8 (Nat.le_refl _))
               clear hb8))
            have HB8 := Lib.hid (bth (Below.drew HBX.out) C8.out (Nat.le_refl _))
            clear ks C7 C8 D7 D8 PD XD HBD
            go_wp2_with fail
            go_roundw
            case rel => exact ⟨k + 1, by omega, by go_num, HB8, HO2⟩
            case measure => simp [intOf]; omega
          · have hq : 0 ≤ q := by have := HQ.out; simpa using this
            have HE : Hid (R = false) := by rw [← HRR.out]; exact goodT_not hlt (by rw [HTP.out]; rfl)
            clear HQ HTP HO
            go_wp2_with fail
            rw [HWX.out]
            go_region_held3 (fun w' => (w'.cell? ⟨w.heap.size, 0, none⟩ = some (.slice an ls.length cn) ∧ w'.cell? ⟨w.heap.size, 1, none⟩ = some (.slice ao l.length co) ∧ w'.cell? ⟨w.heap.size, 2, none⟩ = some (.slice as0 bs.length cs) ∧ w'.cell? ⟨w.heap.size, 3, none⟩ = some (.slice ar rs.length cr)) ∧ (w'.cell? ⟨wr.heap.size, 0, none⟩ = some (.int .i64 x1) ∧ w'.cell? ⟨wr.heap.size, 1, none⟩ = some (.slice a2 nx c2) ∧ w'.cell? ⟨wr.heap.size, 2, none⟩ = some (.string ⟨x2.toArray⟩) ∧ w'.cell? ⟨wr.heap.size, 3, none⟩ = some (.int .i64 x3))) (first | exact ks)
          (first
            | (go_at_call 34; refine (HC1.out _ (by exact HBD.out)).mono ?_; rintro e w7 ⟨rfl, hb7⟩
               have ks := And.intro (PD.out.below hb7 hltp).cells (XD.out.below hb7 hltx).cells
               have C7 := Lib.hid hb7
               have D7 := Lib.hid (bth HBD.out hb7 (Nat.le_refl _))
               clear hb7)
            | (go_at_call 60; refine (HC3.out _ (by exact D7.out)).mono ?_; rintro e w8 ⟨rfl, hb8⟩
               have C8 := Lib.hid (bth C7.out hb8 (Nat.le_refl _))
               have ks := And.intro (PD.out.below C8.out hltp).cells (XD.out.below C8.out hltx).cells
               have D8 := Lib.hid (bth D7.out hb8 (Nat.le_refl _))
               clear hb8))
            have HB8 := Lib.hid D8.out
            clear ks C7 C8 D7 D8 PD XD HBD
            go_wp2_with fail
            go_ret
            exact ⟨by rw [HE.out] <;> rfl, HB8.out⟩
      · have hltz : ¬ ((k : Int) < (T.length : Int)) := by omega
        have HE : Hid (R = true) := by rw [← HRR.out]; exact goodT_of HPL.out H40.out (fun j hj => HO.out j (by omega))
        clear HAT HXT HO HTR
        go_wp2_with fail
        go_ret
        exact ⟨by rw [HE.out] <;> rfl, HBW.out⟩
  · have hd : decide ((T.length : Int) > 40) = true := by simp; omega
    have HE : Hid (R = false) := by rw [← HRR.out]; exact goodT_many h40
    clear HAT HXT HTR h40
    go_enter Tryz.func33, Tryz.ntmps33
    go_wp2_with fail
    rw [HWA.out]
    refine HC.out.mono ?_
    rintro e w1 ⟨rfl, hb1⟩
    have HB1 := Lib.hid (bth HA.out hb1 (Nat.le_refl _))
    clear hb1 c0 c1 c2' c3
    go_wp2_with fail
    go_ret
    exact ⟨by rw [HE.out] <;> rfl, HB1.out⟩
theorem implGood9_b {ls : List (List Int)} {l : List Int} {bs : List Bool} {rs : List (List OpT)} {T : List TrT} {b : Bool} (h : goodT ls l bs rs T = b) (v x : Value) (w : World) (hp : PlanV w v ls l bs rs) (hT : RowT w x T) (hx : ∀ l ∈ rs, ∀ f ∈ l, f.2.2.length ≤ maxLen) (hxT : ∀ t ∈ T, HeldT maxLen t) :
    Calls Tryz.prog 33 #[v, x] w (BoolPost b w) := by
  subst h
  exact implGood9_any ls l bs rs T v x w hp hT hx hxT

end Go.Proofs.YtngldlconipnnaaGreat

/- Walks: what is found among traces, of both. -/
namespace Go.Proofs.YtngldlconipnnaaGreat
open Go.RowKit Pth

theorem set_ne9 (W : World) {g b i j : Nat} (u : Value) (h : b ≠ g) : (W.setCell ⟨g, i, none⟩ u).cell? ⟨b, j, none⟩ = W.cell? ⟨b, j, none⟩ := World.cell?_of_block (w := W) (a := ⟨b, j, none⟩) (Below.heap_setCell W _ u b (by show b ≠ g; exact h))

set_option maxRecDepth 20000 in
set_option maxHeartbeats 8000000 in
theorem ownRes_any (o : ResT) (w : World) (hx : o.1.length ≤ 1000) :
    Calls Tryz.prog 64 #[resV o] w fun e w' => e = .returned (resV o) ∧ Below w.heap.size w w' := by
  obtain ⟨t, n⟩ := o
  unfold resV
  simp only at hx ⊢
  obtain ⟨wp, hwp⟩ : ∃ wp, wp = w.alloc (.cells #[.string ⟨t.toArray⟩, .int .i64 n] 48) := ⟨_, rfl⟩
  obtain ⟨wa, hwa⟩ : ∃ wa, wa = wp.alloc (.cells #[.string ⟨#[]⟩, .int .i64 0] 48) := ⟨_, rfl⟩
  have ep : wp.heap.size = w.heap.size + 1 := by rw [hwp]; simp
  have ea : wa.heap.size = w.heap.size + 2 := by rw [hwa]; simp [ep]
  have Q0 : Hid (Blk2 wa.drew w.heap.size 48 (.string ⟨t.toArray⟩) (.int .i64 n)) := by show Blk2 wa _ _ _ _; rw [hwa, hwp]; exact Blk2.new.old _
  have R0 : Hid (Blk2 wa.drew (w.heap.size + 1) 48 (.string ⟨#[]⟩) (.int .i64 0)) := by show Blk2 wa _ _ _ _; rw [hwa, ← ep]; exact Blk2.new
  have HA : Hid (Below w.heap.size w wa.drew) := by
    have : Below w.heap.size w wa := by rw [hwa, hwp]; exact ((Below.refl w.heap.size w).alloc (Nat.le_refl _) _).alloc (by simp) _
    exact Below.drew this
  have HWA : Hid ((w.alloc (.cells #[.string ⟨t.toArray⟩, .int .i64 n] 48)).alloc (.cells #[.string ⟨#[]⟩, .int .i64 0] 48) = wa) := by rw [hwa, hwp]; rfl
  have hsz : wa.drew.heap.size = w.heap.size + 2 := ea
  have HC := Lib.hid (clone_any t wa.drew hx)
  have ks := Q0.out.cells
  have hne : w.heap.size ≠ w.heap.size + 1 := by omega
  have hl0 : w.heap.size < wa.drew.heap.size := by omega
  have hl1 : w.heap.size + 1 < wa.drew.heap.size := by omega
  clear hwa hwp ep ea
  go_enter Tryz.func64, Tryz.ntmps64
  go_wp2_with fail
  rw [HWA.out]
  go_region_held3 (fun w' => w'.cell? ⟨w.heap.size, 0, none⟩ = some (.string ⟨t.toArray⟩) ∧ w'.cell? ⟨w.heap.size, 1, none⟩ = some (.int .i64 n)) (first | exact ks | (rw [set_ne9 _ _ hne, set_ne9 _ _ hne, set_ne9 _ _ hne, set_ne9 _ _ hne]; exact ks))
    (first
      | (go_at_call 87; refine HC.out.mono ?_; rintro e w7 ⟨rfl, hb7⟩
         have ks := (Q0.out.below hb7 hl0).cells
         have R7 := Lib.hid (R0.out.below hb7 hl1)
         obtain ⟨f0, f1⟩ := R7.out.cells
         have g0 := R7.out.soft 0
         have g1 := R7.out.soft 1
         have HB7 := Lib.hid (bth HA.out hb7 (Nat.le_refl _))
         clear hb7))
  all_goals
    clear ks
    have hZ := (R7.out.set0 (.string ⟨t.toArray⟩)).set1 (.int .i64 n)
    go_wp2_with fail
    refine bodyPost_ret (results_cellR rfl rfl (load_res hZ.cells.1 hZ.cells.2)) rfl ?_
    exact ⟨rfl, (HB7.out.setCell (p := ⟨w.heap.size + 1, 0, none⟩) (by show _ ≤ _ + 1; omega) _).setCell (p := ⟨w.heap.size + 1, 1, none⟩) (by show _ ≤ _ + 1; omega) _⟩
/-- What is found, and whether it is. -/
def OutPost (x : Option ResT) (w : World) (e : Ending) (w' : World) : Prop := e = .returned (.tuple #[resV (resO x), .bool x.isSome]) ∧ Below w.heap.size w w'

end Go.Proofs.YtngldlconipnnaaGreat

/- Walks: the laws' helpers on lists of traces: copies, whether they are the same. -/
namespace Go.Proofs.YtngldlconipnnaaGreat
open Go.RowKit Pth

theorem TC_zero (n : Nat) : TC (List.replicate n (.slice none 0 0)) (List.replicate n noTr) = (madeCells #[.int .i64 0, .slice none 0 0, .string ByteArray.empty, .int .i64 0] (n * 4)).toList := by
  apply List.ext_getElem?
  intro j
  have hs : (List.replicate n (Value.slice none 0 0)).length = (List.replicate n noTr).length := by simp
  by_cases hj : j < n * 4
  · have hd : j / 4 < n := by omega
    obtain ⟨q0, q1, q2, q3⟩ := TC_at (l := List.replicate n noTr) hs (k := j / 4) (by simpa using hd)
    have hm : j % 4 = 0 ∨ j % 4 = 1 ∨ j % 4 = 2 ∨ j % 4 = 3 := by omega
    rcases hm with h | h | h | h
    · rw [show j = j / 4 * 4 by omega, q0]
      simp [madeCells, noTr, hd]
    · rw [show j = j / 4 * 4 + 1 by omega, q1]
      have e : (j / 4 * 4 + 1) % 4 = 1 := by omega
      have e2 : j / 4 * 4 + 1 < n * 4 := by omega
      simp [madeCells, e, e2]
    · rw [show j = j / 4 * 4 + 2 by omega, q2]
      have e : (j / 4 * 4 + 2) % 4 = 2 := by omega
      have e2 : j / 4 * 4 + 2 < n * 4 := by omega
      simp [madeCells, noTr, noRes, e, e2]; rfl
    · rw [show j = j / 4 * 4 + 3 by omega, q3]
      have e : (j / 4 * 4 + 3) % 4 = 3 := by omega
      have e2 : j / 4 * 4 + 3 < n * 4 := by omega
      simp [madeCells, noTr, noRes, e, e2]
  · rw [List.getElem?_eq_none (by rw [TC_len hs]; simp; omega)]
    simp [madeCells, hj]
theorem make_rowT (n : Nat) (w : World) (hn : n ≤ 2000000) :
    ∃ w', (Instr.makeSlice 39 (.int .i64 (n : Int)) (.int .i64 (n : Int))).run Tryz.prog w = .ok (.slice (some ⟨w.heap.size, 0, none⟩) n n) w' ∧
      w'.ownsRow w.heap.size 50 4 (.slice (some ⟨w.heap.size, 0, none⟩) n n) n (TC (List.replicate n (.slice none 0 0)) (List.replicate n noTr)) ∧ Below w.heap.size w w' := by
  obtain ⟨i0, hi, hz0, hz1, hz2⟩ := info_parts elemT.info
  obtain ⟨w', h1, h2, h3⟩ := run_makeSlice_full (P := Tryz.prog) w w.heap.size _ _ i0 _ 4 elemT.under hi hz0 hz1 .i64 .i64 n (by omega) (by rw [hz2]; exact Nat.le_trans (Nat.mul_le_mul elemT.small hn) (by decide)) (by unfold maxLen; omega) (Nat.le_refl _)
  rw [TC_zero]
  exact ⟨w', h1, h2, (Below.refl _ w).grown h3 (Nat.le_refl _) (fun k hk => by cases hk)⟩
/-- A trace that is stored in a row of the call's own. -/
theorem OwnA.putT {B : Nat} {w : World} {g o cap n : Nat} {sl : List Value} {l : List TrT} (h : OwnA B 50 4 w (.slice (some ⟨g, o, none⟩) n cap) n (TC sl l)) (hs : sl.length = l.length) {k : Nat} (hk : k < l.length) (u : Value) (t : TrT) :
    OwnA B 50 4 ((((w.setCell ⟨g, o + k * 4, none⟩ (.int .i64 t.1)).setCell ⟨g, o + k * 4 + 1, none⟩ u).setCell ⟨g, o + k * 4 + 2, none⟩ (.string ⟨t.2.2.1.toArray⟩)).setCell ⟨g, o + k * 4 + 3, none⟩ (.int .i64 t.2.2.2)) (.slice (some ⟨g, o, none⟩) n cap) n (TC (sl.set k u) (l.set k t)) ∧
    w.grownBy ((((w.setCell ⟨g, o + k * 4, none⟩ (.int .i64 t.1)).setCell ⟨g, o + k * 4 + 1, none⟩ u).setCell ⟨g, o + k * 4 + 2, none⟩ (.string ⟨t.2.2.1.toArray⟩)).setCell ⟨g, o + k * 4 + 3, none⟩ (.int .i64 t.2.2.2)) (some g) := by
  have h1 := h.stored (k * 4) (.int .i64 t.1)
  have h2 := h1.1.stored (k * 4 + 1) u
  have h3 := h2.1.stored (k * 4 + 2) (.string ⟨t.2.2.1.toArray⟩)
  have h4 := h3.1.stored (k * 4 + 3) (.int .i64 t.2.2.2)
  rw [TC_set hs hk u t] at h4
  have hg := grown_trans (grown_trans (grown_trans h1.2 h2.2) h3.2) h4.2
  exact ⟨h4.1, hg⟩
/-- The cells of a trace in a row of the call's own. -/
theorem OwnA.atT {B : Nat} {w : World} {g o cap n : Nat} {sl : List Value} {l : List TrT} (h : OwnA B 50 4 w (.slice (some ⟨g, o, none⟩) n cap) n (TC sl l)) (hs : sl.length = l.length) {k : Nat} (hk : k < l.length) :
    w.cell? ⟨g, o + k * 4, none⟩ = some (.int .i64 l[k].1) ∧ w.cell? ⟨g, o + k * 4 + 1, none⟩ = some (sl[k]'(by omega)) ∧ w.cell? ⟨g, o + k * 4 + 2, none⟩ = some (.string ⟨(l[k]).2.2.1.toArray⟩) ∧ w.cell? ⟨g, o + k * 4 + 3, none⟩ = some (.int .i64 l[k].2.2.2) := by
  obtain ⟨q0, q1, q2, q3⟩ := TC_at hs hk
  exact ⟨h.cell q0, h.cell q1, h.cell q2, h.cell q3⟩
theorem set_mid {α : Type} (a : List α) (k : Nat) (ha : a.length = k) (n : Nat) (hk : k < n) (z x : α) : (a ++ List.replicate (n - k) z).set k x = (a ++ [x]) ++ List.replicate (n - (k + 1)) z := by
  rw [List.set_append_right _ _ (by omega), ha, Nat.sub_self, show n - k = (n - (k + 1)) + 1 by omega, List.replicate_succ, List.set_cons_zero, List.append_assoc]
  rfl
theorem get_mid {α : Type} (a : List α) (k : Nat) (ha : a.length = k) (n : Nat) (hk : k < n) (z : α) : (a ++ List.replicate (n - k) z)[k]? = some z := by
  rw [List.getElem?_append_right (by omega), ha, Nat.sub_self, List.getElem?_replicate]
  simp; omega
/-- Copies of traces. -/
def TracesPost (l : List TrT) (w : World) (e : Ending) (w' : World) : Prop := ∃ v sl, e = .returned v ∧ OwnT w.heap.size w' v sl l ∧ Below w.heap.size w w'

set_option maxRecDepth 20000 in
set_option maxHeartbeats 4000000 in
theorem toTraceS_any (l : List TrT) (v : Value) (w : World) (hrow : RowT w v l) (hl : l.length + totT l ≤ 2000000) :
    Calls Tryz.prog 9 #[v] w (TracesPost l w) := by
  obtain ⟨a, cap, rfl, hc1, hc2, hat⟩ := hrow.traces
  clear hrow
  unfold maxLen at hc2
  have HAT := Lib.hid hat
  clear hat
  obtain ⟨w0, hmk, hown0, hb0⟩ := make_rowT l.length w (by omega)
  have HN0 := Lib.hid (OwnA.of_own hown0)
  have HB0 := Lib.hid hb0
  clear hown0 hb0
  go_enter Tryz.func9, Tryz.ntmps9
  go_wp2_with fail
  clear hmk
  go_loopw [4] (fun i wr => ∃ (k : Nat) (sl : List Value), k ≤ l.length ∧ i = .int .i64 k ∧ sl.length = k ∧ Hid (OwnA w.heap.size 50 4 wr (.slice (some ⟨w.heap.size, 0, none⟩) l.length l.length) l.length (TC (sl ++ List.replicate (l.length - k) (.slice none 0 0)) (l.take k ++ List.replicate (l.length - k) noTr))) ∧ Hid (ListsS w.heap.size wr (sl.zip ((l.take k).map (·.2.1)))) ∧ Hid (Below w.heap.size w wr)) (fun i _ => l.length - (intOf i).toNat)
  case atStart => exact ⟨0, [], Nat.zero_le _, rfl, rfl, by simpa using HN0, by simp [ListsS, Hid], HB0⟩
  case round =>
    clear HN0 HB0
    obtain ⟨k, sl, hk, rfl, hsl, HN, HL, HB⟩ := hrel
    have hbs := HB.out.size
    by_cases hlt : k < l.length
    · obtain ⟨g, o, a2, c2, rfl, hg, ⟨k0, k1, k2, k3⟩, hrk⟩ := HAT.out k hlt
      have s0 := (HB.out.cell (p := ⟨g, o + k * 4, none⟩) hg).trans k0
      have s1 := (HB.out.cell (p := ⟨g, o + k * 4 + 1, none⟩) hg).trans k1
      have s2 := (HB.out.cell (p := ⟨g, o + k * 4 + 2, none⟩) hg).trans k2
      have s3 := (HB.out.cell (p := ⟨g, o + k * 4 + 3, none⟩) hg).trans k3
      have HC := Lib.hid (toTrace_any l[k] _ wr ⟨a2, c2, rfl, hrk.below HB.out⟩ (by have := totT_at hlt; omega))
      have ht : (l.take k).length = k := by rw [List.length_take]; omega
      have hlen : (sl ++ List.replicate (l.length - k) (Value.slice none 0 0)).length = (l.take k ++ List.replicate (l.length - k) noTr).length := by simp; omega
      have hkl : k < (l.take k ++ List.replicate (l.length - k) noTr).length := by simp; omega
      have HP := Lib.hid (fun W (h : OwnA w.heap.size 50 4 W (.slice (some ⟨w.heap.size, 0, none⟩) l.length l.length) l.length (TC (sl ++ List.replicate (l.length - k) (.slice none 0 0)) (l.take k ++ List.replicate (l.length - k) noTr))) u => h.putT hlen hkl u l[k])
      have HG : Hid (∀ W (h : OwnA w.heap.size 50 4 W (.slice (some ⟨w.heap.size, 0, none⟩) l.length l.length) l.length (TC (sl ++ List.replicate (l.length - k) (.slice none 0 0)) (l.take k ++ List.replicate (l.length - k) noTr))),
          W.cell? ⟨w.heap.size, k * 4, none⟩ = some (.int .i64 0) ∧ W.cell? ⟨w.heap.size, k * 4 + 1, none⟩ = some (.slice none 0 0) ∧ W.cell? ⟨w.heap.size, k * 4 + 2, none⟩ = some (.string ByteArray.empty) ∧ W.cell? ⟨w.heap.size, k * 4 + 3, none⟩ = some (.int .i64 0)) := by
        intro W h
        obtain ⟨q0, q1, q2, q3⟩ := h.atT hlen hkl
        have e1 := get_mid (l.take k) k ht l.length hlt noTr
        rw [List.getElem?_eq_getElem hkl] at e1
        have e1 := Option.some.inj e1
        have e2 := get_mid sl k hsl l.length hlt (Value.slice none 0 0)
        rw [List.getElem?_eq_getElem (by omega)] at e2
        have e2 := Option.some.inj e2
        rw [e1, Nat.zero_add] at q0 q2 q3
        rw [e2, Nat.zero_add] at q1
        exact ⟨q0, q1, q2, q3⟩
      have HE1 : Hid (∀ u, (sl ++ List.replicate (l.length - k) (Value.slice none 0 0)).set k u = (sl ++ [u]) ++ List.replicate (l.length - (k + 1)) (.slice none 0 0)) := fun u => set_mid sl k hsl l.length hlt _ u
      have HE2 : Hid ((l.take k ++ List.replicate (l.length - k) noTr).set k l[k] = l.take (k + 1) ++ List.replicate (l.length - (k + 1)) noTr) := by
        show _ = _
        rw [set_mid (l.take k) k ht l.length hlt, ← List.take_succ_eq_append_getElem hlt]
      have HZ : Hid (∀ u, (sl ++ [u]).zip ((l.take (k + 1)).map (·.2.1)) = sl.zip ((l.take k).map (·.2.1)) ++ [(u, l[k].2.1)]) := by
        intro u
        rw [List.take_succ_eq_append_getElem hlt, List.map_append, List.zip_append (by rw [List.length_map]; omega)]
        rfl
      clear k0 k1 k2 k3 hrk ht hlen hkl
      generalize l[k] = x at *
      obtain ⟨x1, xi, x2, x3⟩ := x
      unfold trV TrPost trV at HC
      simp only at s0 s1 s2 s3 HC HP HZ
      go_wp2_with fail
      refine HC.out.mono ?_
      rintro e w1 ⟨b1, d1, rfl, ho1, hb1⟩
      have HB1 := Lib.hid (HB.out.trans (hb1.mono HB.out.size))
      have HN1 := Lib.hid (HN.out.below hb1)
      have HL1 := Lib.hid (HL.out.snoc hb1 ho1 (Nat.le_refl _) HB.out.size)
      rw [← HZ.out] at HL1
      have hp := HP.out w1 HN1.out (.slice b1 xi.length d1)
      rw [HE1.out, HE2.out] at hp
      simp only [Nat.zero_add] at hp
      have HN2 := Lib.hid hp.1
      have HL2 := Lib.hid (HL1.out.grownA HN1.out (by decide) hp.2)
      have HB2 := Lib.hid (HB1.out.trans (only_below hp.2 (Nat.le_refl _) HB1.out.size))
      obtain ⟨q0, q1, q2, q3⟩ := HG.out w1 HN1.out
      have f0 := HN1.out.soft (k * 4)
      have f1 := HN1.out.soft (k * 4 + 1)
      have f2 := HN1.out.soft (k * 4 + 2)
      have f3 := HN1.out.soft (k * 4 + 3)
      clear hp hb1 ho1 HN HB HL HC HE1 HE2 HG HP HZ HN1 HL1 HB1
      go_wp2_with fail
      go_roundw
      case rel => exact ⟨k + 1, sl ++ [.slice b1 xi.length d1], by omega, by go_num, by rw [List.length_append, hsl]; rfl, HN2, HL2, HB2⟩
      case measure => simp [intOf]; omega
    · have hkl : k = l.length := by omega
      rw [hkl, Nat.sub_self, List.replicate_zero, List.replicate_zero, List.append_nil, List.append_nil, List.take_length] at HN
      rw [hkl, List.take_length] at HL
      have HZ : Hid (OwnT w.heap.size wr (.slice (some ⟨w.heap.size, 0, none⟩) l.length l.length) sl l) := ⟨by omega, HN.out, HL.out⟩
      clear HAT HN HL
      go_wp2_with fail
      go_ret
      exact ⟨_, sl, rfl, HZ.out, HB.out⟩

set_option maxRecDepth 20000 in
set_option maxHeartbeats 2000000 in
theorem eqTrace_b {t u : TrT} {b : Bool} {v x : Value} {w : World} (hv : TrV w v t) (hu : TrV w x u) (hl : t.2.1.length ≤ 2000000) (h : decide (t = u) = b) :
    Calls Tryz.prog 14 #[v, x] w (BoolPost b w) := by
  obtain ⟨t1, ins, o1, o2⟩ := t
  obtain ⟨u1, jns, p1, p2⟩ := u
  obtain ⟨a, c, rfl, hr⟩ := hv
  obtain ⟨a', c', rfl, hr'⟩ := hu
  simp only at hr hr' hl
  unfold trV
  simp only
  have HE : Hid (b = (decide (t1 = u1) && (decide (ins = jns) && decide ((o1, o2) = (p1, p2))))) := by
    show _ = _
    rw [← h, Bool.eq_iff_iff]
    simp only [Bool.and_eq_true, decide_eq_true_eq, Prod.mk.injEq]
  clear h
  obtain ⟨wp, hwp⟩ : ∃ wp, wp = w.alloc (.cells #[.int .i64 t1, .slice a ins.length c, .string ⟨o1.toArray⟩, .int .i64 o2] 50) := ⟨_, rfl⟩
  obtain ⟨wa, hwa⟩ : ∃ wa, wa = wp.alloc (.cells #[.int .i64 u1, .slice a' jns.length c', .string ⟨p1.toArray⟩, .int .i64 p2] 50) := ⟨_, rfl⟩
  have ep : wp.heap.size = w.heap.size + 1 := by rw [hwp]; simp
  have ea : wa.heap.size = w.heap.size + 2 := by rw [hwa]; simp [ep]
  have P0 : Hid (Blk4 wa w.heap.size 50 (.int .i64 t1) (.slice a ins.length c) (.string ⟨o1.toArray⟩) (.int .i64 o2)) := by rw [hwa, hwp]; exact Blk4.new.old _
  have Q0 : Hid (Blk4 wa (w.heap.size + 1) 50 (.int .i64 u1) (.slice a' jns.length c') (.string ⟨p1.toArray⟩) (.int .i64 p2)) := by rw [hwa, ← ep]; exact Blk4.new
  have HA : Hid (Below w.heap.size w wa) := by rw [hwa, hwp]; exact ((Below.refl w.heap.size w).alloc (Nat.le_refl _) _).alloc (by simp) _
  have HWA : Hid ((w.alloc (.cells #[.int .i64 t1, .slice a ins.length c, .string ⟨o1.toArray⟩, .int .i64 o2] 50)).alloc (.cells #[.int .i64 u1, .slice a' jns.length c', .string ⟨p1.toArray⟩, .int .i64 p2] 50) = wa) := by rw [hwa, hwp]; rfl
  have HS := Lib.hid (eqStringS_any ins jns _ _ wa (hr.below HA.out) (hr'.below HA.out) hl)
  clear hwa hwp hr hr'
  by_cases hT : t1 = u1
  · have d1 : (t1 != u1) = false := by simp [hT]
    have HE1 : Hid (b = (decide (ins = jns) && decide ((o1, o2) = (p1, p2)))) := by rw [HE.out, decide_eq_true hT, Bool.true_and]; rfl
    clear HE hT
    generalize decide (ins = jns) = bi at *
    go_enter Tryz.func14, Tryz.ntmps14
    go_wp2_with fail
    rw [HWA.out]
    refine HS.out.mono ?_
    rintro e w1 ⟨rfl, hb1⟩
    have HB1 := Lib.hid (bth HA.out hb1 (Nat.le_refl _))
    obtain ⟨_, _, c2, c3⟩ := (P0.out.below hb1 (by omega)).cells
    obtain ⟨_, _, e2, e3⟩ := (Q0.out.below hb1 (by omega)).cells
    have hs1 := hb1.size
    clear hb1 HS
    rcases bi with _ | _
    · go_wp2_with fail
      go_ret
      exact ⟨by rw [HE1.out] <;> rfl, HB1.out⟩
    · obtain ⟨br, hbr⟩ : ∃ br, decide ((o1, o2) = (p1, p2)) = br := ⟨_, rfl⟩
      have HR := Lib.hid (eqResult_b hbr w1)
      unfold resV at HR
      simp only at HR
      rw [hbr, Bool.true_and] at HE1
      clear hbr
      go_wp2_with fail
      refine HR.out.mono ?_
      rintro e w2 ⟨rfl, hb2⟩
      have HB2 := Lib.hid (bth HB1.out hb2 (Nat.le_refl _))
      clear hb2 HR
      rcases br with _ | _
      all_goals
        go_wp2_with fail
        go_ret
        exact ⟨by rw [HE1.out] <;> rfl, HB2.out⟩
  · have d1 : (t1 != u1) = true := by simp [hT]
    have HE1 : Hid (b = false) := by rw [HE.out, decide_eq_false hT, Bool.false_and]; rfl
    clear HE hT HS
    go_enter Tryz.func14, Tryz.ntmps14
    go_wp2_with fail
    go_ret
    exact ⟨by rw [HE1.out] <;> rfl, by rw [HWA.out]; exact HA.out⟩

end Go.Proofs.YtngldlconipnnaaGreat

/- Walks: copies of traces, and one that is noted, of the program. -/
namespace Go.Proofs.YtngldlconipnnaaGreat
open Go.RowKit Pth

/-- An append whose run is known. -/
theorem wpList_runApp9 {t : TypeId} {ops : Array Oper} {rest : List Oper} {o : Oper} {a : Act} {Q : Exit → Act → World → Prop} {w w' : World} {v u r : Value} (hgd : o.guard = none) (s x : Operand)
    (ho : o.op = .call { callee := .builtin .append, args := #[s, x], argTypes := #[t, t] }) (hs : a.eval s = v) (hx : a.eval x = u) (hrun : (Builtin.append_ #[t, t] o.type #[v, u]).run Tryz.prog w = .ok r w')
    (h : wpList Tryz.prog ops Q rest (a.put o.dst r) w') : wpList Tryz.prog ops Q (o :: rest) a w := by
  refine wpList_plain hgd fun K hK => ?_
  unfold Oper.wp execOp
  simp only [ho, resolve, invoke, builtin, Sem.run_bind, Sem.run_pure, Result.andThen_ok, List.map_toArray, List.map_cons, List.map_nil, hs, hx, hrun]
  exact hK _ _ h
theorem below_ownA {w w' : World} {B e n z : Nat} {v : Value} {xs : List Value} (h : OwnA B e z w v n xs) (hg : w.grownBy w' v.ownBlock) (hB : B ≤ w.heap.size) : Below B w w' :=
  (Below.refl B w).grown hg hB (fun k hk => (h.lt k hk).1)
/-- One more behind traces of the call's own. -/
theorem OwnT.push {B : Nat} {w : World} {v : Value} {sl : List Value} {l : List TrT} {a : Option Addr} {c : Nat} {t : TrT} (hs : sl.length = l.length) (hA : OwnA B 50 4 w v l.length (TC sl l)) (hL : ListsS B w (sl.zip (l.map (·.2.1)) ++ [(.slice a t.2.1.length c, t.2.1)])) (hl : l.length ≤ 1000000) (hB : B ≤ w.heap.size) (ty : TypeId) :
    ∃ v' w', (Builtin.append_ #[39, 39] ty #[v, .slice (some ⟨w.heap.size, 0, none⟩) 1 1]).run Tryz.prog (w.alloc (.cells #[.int .i64 t.1, .slice a t.2.1.length c, .string ⟨t.2.2.1.toArray⟩, .int .i64 t.2.2.2] 50)) = .ok v' w' ∧
      OwnT B w' v' (sl ++ [.slice a t.2.1.length c]) (l ++ [t]) ∧ w.grownBy w' v.ownBlock ∧ (∀ b, v'.ownBlock = some b → v.ownBlock = some b ∨ w.heap.size ≤ b) := by
  obtain ⟨v', w', h1, h2, h3, h4⟩ := hA.push elemT #[.int .i64 t.1, .slice a t.2.1.length c, .string ⟨t.2.2.1.toArray⟩, .int .i64 t.2.2.2] rfl (trC_one rfl t) hl hB ty
  refine ⟨v', w', h1, ⟨by rw [List.length_append, List.length_append, hs]; rfl, ?_, ?_⟩, h3, h4⟩
  · rw [TC_append hs, TC_one', List.length_append]
    exact h2
  · have := hL.grownA hA (by decide) h3
    rw [List.map_append, List.zip_append (by rw [List.length_map]; exact hs)]
    exact this
/-- One in place of another. -/
theorem OwnT.put {B : Nat} {w : World} {g o cap n : Nat} {sl : List Value} {l : List TrT} {a : Option Addr} {c : Nat} {t : TrT} (hs : sl.length = l.length) (hn : n = l.length) (hA : OwnA B 50 4 w (.slice (some ⟨g, o, none⟩) n cap) n (TC sl l)) (hL : ListsS B w (sl.zip (l.map (·.2.1)) ++ [(.slice a t.2.1.length c, t.2.1)])) {k : Nat} (hk : k < l.length) :
    OwnT B ((((w.setCell ⟨g, o + k * 4, none⟩ (.int .i64 t.1)).setCell ⟨g, o + k * 4 + 1, none⟩ (.slice a t.2.1.length c)).setCell ⟨g, o + k * 4 + 2, none⟩ (.string ⟨t.2.2.1.toArray⟩)).setCell ⟨g, o + k * 4 + 3, none⟩ (.int .i64 t.2.2.2)) (.slice (some ⟨g, o, none⟩) n cap) (sl.set k (.slice a t.2.1.length c)) (l.set k t) ∧
    w.grownBy ((((w.setCell ⟨g, o + k * 4, none⟩ (.int .i64 t.1)).setCell ⟨g, o + k * 4 + 1, none⟩ (.slice a t.2.1.length c)).setCell ⟨g, o + k * 4 + 2, none⟩ (.string ⟨t.2.2.1.toArray⟩)).setCell ⟨g, o + k * 4 + 3, none⟩ (.int .i64 t.2.2.2)) (some g) := by
  obtain ⟨h1, h2⟩ := hA.putT hs hk (.slice a t.2.1.length c) t
  refine ⟨⟨by rw [List.length_set, List.length_set, hs], by rw [List.length_set, ← hn]; exact h1, ?_⟩, h2⟩
  have h3 := (hL.grownA hA (by decide) h2).put k
  have e : (sl.set k (.slice a t.2.1.length c)).zip ((l.set k t).map (·.2.1)) = (sl.zip (l.map (·.2.1))).set k (.slice a t.2.1.length c, t.2.1) := by
    rw [List.map_set]
    apply List.ext_getElem
    · simp
    · intro i h1 h2
      simp only [List.getElem_zip, List.getElem_set]
      split <;> rfl
  rw [e]; exact h3
theorem OwnT.cut {B : Nat} {w : World} {a : Option Addr} {cap n : Nat} {sl : List Value} {l : List TrT} (h : OwnT B w (.slice a n cap) sl l) (hn : n = l.length) (k : Nat) (hk : k ≤ n) :
    OwnT B w (.slice (if cap = k then a else a.map (·.add (k * 4))) (n - k) (cap - k)) (sl.drop k) (l.drop k) := by
  obtain ⟨hs, hA, hL⟩ := h
  rw [← hn] at hA
  have := hA.cut k hk
  rw [TC_drop hs] at this
  refine ⟨by rw [List.length_drop, List.length_drop, hs], by rw [List.length_drop, ← hn]; exact this, ?_⟩
  have h2 := hL.drop k
  rw [List.zip, List.drop_zipWith, ← List.map_drop] at h2
  exact h2

set_option maxRecDepth 20000 in
set_option maxHeartbeats 8000000 in
theorem ownTexts9_any (l : List (List UInt8)) (v : Value) (w : World) (hrow : RowV w v (S l)) (hx : ∀ f ∈ l, f.length ≤ 1000) (hl : l.length ≤ 1000) :
    Calls Tryz.prog 63 #[v] w (TextsPost w.heap.size l w) := by
  obtain ⟨a, cap, rfl, hc1, hc2, hat⟩ := hrow.texts
  clear hrow
  unfold maxLen at hc2
  go_enter Tryz.func63, Tryz.ntmps63
  go_wp2_with fail
  go_loopw [8, 3] (fun i v wr => ∃ k : Nat, k ≤ l.length ∧ i = .int .i64 k ∧ Hid (wr.ownsRow w.heap.size 9 1 v (l.take k).length (S (l.take k))) ∧ Hid (Below w.heap.size w wr)) (fun i _ _ => l.length - (intOf i).toNat)
  case atStart => exact ⟨0, Nat.zero_le _, rfl, ⟨rfl, .inl ⟨rfl, rfl⟩⟩, Below.refl _ _⟩
  case round =>
    obtain ⟨k, hk, rfl, HN, HB⟩ := hrel
    by_cases hlt : k < l.length
    · obtain ⟨g, o, rfl, hg, hcell1⟩ := hat k hlt
      have hc1' : wr.cell? ⟨g, o + k, none⟩ = some (.string ⟨(l[k]).toArray⟩) := by rw [HB.out.cell (p := ⟨g, o + k, none⟩) hg]; exact hcell1
      have HT : Hid (l.take k ++ [l[k]] = l.take (k + 1)) := (List.take_succ_eq_append_getElem hlt).symm
      have HCL := Lib.hid (clone_any l[k] wr (hx l[k] (List.getElem_mem hlt)))
      have hln : (l.take k).length = k := by rw [List.length_take]; omega
      generalize l.take k = acc at HN HT hln
      clear hcell1 hat hx
      generalize l[k] = x at hc1' HT HCL
      go_wp2_with fail
      refine HCL.out.mono ?_
      rintro e w1 ⟨rfl, hb1⟩
      have HN1 := Lib.hid (own_belowG HN.out hb1)
      have HB1 := Lib.hid (bth HB.out hb1 (Nat.le_refl _))
      clear hb1 HN HB HCL
      go_wp2_with (at_builtin; refine wpAppOne elemS rfl _ _ rfl w.heap.size _ (S acc) rfl (by rw [S_len]; exact HN1.out) _ rfl rfl rfl (by rw [S_len]; omega) HB1.out.size ?_; intro v2 w2 hown2 hg2; have HN2 := Lib.hid (text_snoc hown2); have HB2 := Lib.hid (HB1.out.trans (below_own HN1.out hg2 HB1.out.size)); clear hown2 hg2)
      rw [HT.out] at HN2
      go_roundw
      case rel => exact ⟨k + 1, by omega, by go_num, HN2, HB2⟩
      case measure => simp [intOf]; omega
    · have HN1 : Hid (wr.ownsRow w.heap.size 9 1 u3 l.length (S l)) := by
        have := HN.out
        rw [List.take_of_length_le (by omega)] at this
        exact this
      clear HN hat hx
      go_wp2_with fail
      go_ret
      exact ⟨_, rfl, HN1.out, HB.out⟩

set_option maxRecDepth 20000 in
set_option maxHeartbeats 8000000 in
theorem ownTrace9_any (t : TrT) (x : Value) (w : World) (hv : TrV w x t) (hx : ∀ y ∈ t.2.1, y.length ≤ 1000) (hl : t.2.1.length ≤ 1000) (ho : t.2.2.1.length ≤ 1000) :
    Calls Tryz.prog 37 #[x] w (TrPost t w) := by
  obtain ⟨t1, ins, x1, x2⟩ := t
  obtain ⟨a, c, rfl, hr⟩ := hv
  simp only at hr hx hl ho ⊢
  unfold trV TrPost
  simp only
  obtain ⟨_, _, he, hc1, hc2, hrt⟩ := hr.texts
  injection he with ea _ ec
  subst ea ec
  unfold maxLen at hc2
  clear hrt
  obtain ⟨wp, hwp⟩ : ∃ wp, wp = w.alloc (.cells #[.int .i64 t1, .slice a ins.length c, .string ⟨x1.toArray⟩, .int .i64 x2] 50) := ⟨_, rfl⟩
  obtain ⟨wa, hwa⟩ : ∃ wa, wa = wp.alloc (.cells #[.int .i64 0, .slice none 0 0, .string ⟨#[]⟩, .int .i64 0] 50) := ⟨_, rfl⟩
  have ep : wp.heap.size = w.heap.size + 1 := by rw [hwp]; simp
  have ea : wa.heap.size = w.heap.size + 2 := by rw [hwa]; simp [ep]
  have P0 : Hid (Blk4 wa.drew w.heap.size 50 (.int .i64 t1) (.slice a ins.length c) (.string ⟨x1.toArray⟩) (.int .i64 x2)) := by show Blk4 wa _ _ _ _ _ _; rw [hwa, hwp]; exact Blk4.new.old _
  have R0 : Hid (Blk4 wa.drew (w.heap.size + 1) 50 (.int .i64 0) (.slice none 0 0) (.string ⟨#[]⟩) (.int .i64 0)) := by show Blk4 wa _ _ _ _ _ _; rw [hwa, ← ep]; exact Blk4.new
  have HA : Hid (Below w.heap.size w wa.drew) := by
    have : Below w.heap.size w wa := by rw [hwa, hwp]; exact ((Below.refl w.heap.size w).alloc (Nat.le_refl _) _).alloc (by simp) _
    exact Below.drew this
  have HWA : Hid ((w.alloc (.cells #[.int .i64 t1, .slice a ins.length c, .string ⟨x1.toArray⟩, .int .i64 x2] 50)).alloc (.cells #[.int .i64 0, .slice none 0 0, .string ⟨#[]⟩, .int .i64 0] 50) = wa) := by rw [hwa, hwp]; rfl
  have hsz : wa.drew.heap.size = w.heap.size + 2 := ea
  have HT := Lib.hid (fun W (h : Below w.heap.size w W) => ownTexts9_any ins _ W (hr.below h) hx hl)
  have HR := Lib.hid (fun W => ownRes_any (x1, x2) W ho)
  unfold resV at HR
  simp only at HR
  have HK : Hid (∀ W, Below wa.drew.heap.size wa.drew W → (W.cell? ⟨w.heap.size, 0, none⟩ = some (.int .i64 t1) ∧ W.cell? ⟨w.heap.size, 1, none⟩ = some (.slice a ins.length c) ∧ W.cell? ⟨w.heap.size, 2, none⟩ = some (.string ⟨x1.toArray⟩) ∧ W.cell? ⟨w.heap.size, 3, none⟩ = some (.int .i64 x2))) := fun W h => (P0.out.below h (by omega)).cells
  have HKR : Hid (∀ W, Below wa.drew.heap.size wa.drew W → Blk4 W (w.heap.size + 1) 50 (.int .i64 0) (.slice none 0 0) (.string ⟨#[]⟩) (.int .i64 0)) := fun W h => R0.out.below h (by omega)
  have BC := Lib.hid (Below.refl wa.drew.heap.size wa.drew)
  have ks := HK.out wa.drew BC.out
  have hne : w.heap.size ≠ w.heap.size + 1 := by omega
  clear hwa hwp ep ea hr hx
  go_enter Tryz.func37, Tryz.ntmps37
  go_wp2_with fail
  rw [HWA.out]
  go_region_held3 (fun w' => w'.cell? ⟨w.heap.size, 0, none⟩ = some (.int .i64 t1) ∧ w'.cell? ⟨w.heap.size, 1, none⟩ = some (.slice a ins.length c) ∧ w'.cell? ⟨w.heap.size, 2, none⟩ = some (.string ⟨x1.toArray⟩) ∧ w'.cell? ⟨w.heap.size, 3, none⟩ = some (.int .i64 x2)) (first | exact ks | (rw [set_ne9 _ _ hne, set_ne9 _ _ hne, set_ne9 _ _ hne, set_ne9 _ _ hne, set_ne9 _ _ hne, set_ne9 _ _ hne, set_ne9 _ _ hne, set_ne9 _ _ hne, set_ne9 _ _ hne, set_ne9 _ _ hne, set_ne9 _ _ hne, set_ne9 _ _ hne, set_ne9 _ _ hne, set_ne9 _ _ hne, set_ne9 _ _ hne, set_ne9 _ _ hne]; exact ks))
    (first
      | (go_at_call 63; refine (HT.out _ (bth HA.out BC.out (Nat.le_refl _))).mono ?_; rintro e w7 ⟨v7, rfl, ho7, hb7⟩
         have BC := Lib.hid (BC.out.trans (hb7.mono BC.out.size))
         have HO := Lib.hid (own_base ho7 (by have := BC.out.size; have := hb7.size; omega : wa.drew.heap.size ≤ _))
         have ks := HK.out w7 BC.out
         obtain ⟨q1, q2, rfl⟩ := own_slice ho7
         have HRB := Lib.hid (HKR.out w7 BC.out)
         obtain ⟨f0, f1, f2, f3⟩ := HRB.out.cells
         have g0 := HRB.out.soft 0
         have g1 := HRB.out.soft 1
         have g2 := HRB.out.soft 2
         have g3 := HRB.out.soft 3
         clear ho7 hb7)
      | (go_at_call 64; refine (HR.out _).mono ?_; rintro e w8 ⟨rfl, hb8⟩
         try have HO := Lib.hid (own_below HO.out hb8)
         have BC := Lib.hid (BC.out.trans (hb8.mono BC.out.size))
         have ks := HK.out w8 BC.out
         have HRB := Lib.hid (HKR.out w8 BC.out)
         obtain ⟨f0, f1, f2, f3⟩ := HRB.out.cells
         have g0 := HRB.out.soft 0
         have g1 := HRB.out.soft 1
         have g2 := HRB.out.soft 2
         have g3 := HRB.out.soft 3
         clear hb8))
  all_goals
    clear ks
    have hZ := (((HRB.out.set0 (.int .i64 t1)).set1 (.slice q1 ins.length q2)).set2 (.string ⟨x1.toArray⟩)).set3 (.int .i64 x2)
    have HBW := Lib.hid (bth HA.out BC.out (Nat.le_refl _))
    go_wp2_with fail
    refine bodyPost_ret (results_cellP rfl rfl (load_trace hZ)) rfl ?_
    have e2 : w.heap.size + 1 < wa.drew.heap.size := by omega
    have e3 : w.heap.size ≤ w.heap.size + 1 := by omega
    refine ⟨q1, q2, rfl, ?_, ?_⟩
    · exact own_base (own_setI (own_setI (own_setI (own_setI HO.out (p := ⟨w.heap.size + 1, 0, none⟩) e2 _) (p := ⟨w.heap.size + 1, 1, none⟩) e2 _) (p := ⟨w.heap.size + 1, 2, none⟩) e2 _) (p := ⟨w.heap.size + 1, 3, none⟩) e2 _) (by omega)
    · exact (((HBW.out.setCell (p := ⟨w.heap.size + 1, 0, none⟩) e3 _).setCell (p := ⟨w.heap.size + 1, 1, none⟩) e3 _).setCell (p := ⟨w.heap.size + 1, 2, none⟩) e3 _).setCell (p := ⟨w.heap.size + 1, 3, none⟩) e3 _

set_option maxRecDepth 20000 in
set_option maxHeartbeats 8000000 in
theorem ownTraces9_any (T : List TrT) (v : Value) (w : World) (hrow : RowT w v T) (hs : ShortT T) (hl : T.length ≤ 1000) :
    Calls Tryz.prog 36 #[v] w (TracesPost T w) := by
  obtain ⟨a, cap, rfl, hc1, hc2, hat⟩ := hrow.traces
  clear hrow
  unfold maxLen at hc2
  have HAT := Lib.hid hat
  have HSH := Lib.hid hs
  clear hat hs
  go_enter Tryz.func36, Tryz.ntmps36
  go_wp2_with fail
  go_loopw [8, 3] (fun i v wr => ∃ (k : Nat) (sl : List Value), k ≤ T.length ∧ i = .int .i64 k ∧ Hid (OwnT w.heap.size wr v sl (T.take k)) ∧ Hid (Below w.heap.size w wr)) (fun i _ _ => T.length - (intOf i).toNat)
  case atStart => exact ⟨0, [], Nat.zero_le _, rfl, OwnT.empty _ _, Below.refl _ _⟩
  case round =>
    obtain ⟨k, sl, hk, rfl, HN, HB⟩ := hrel
    by_cases hlt : k < T.length
    · obtain ⟨g, o, a2, c2, rfl, hg, ⟨k0, k1, k2, k3⟩, hrk⟩ := HAT.out k hlt
      have s0 := (HB.out.cell (p := ⟨g, o + k * 4, none⟩) hg).trans k0
      have s1 := (HB.out.cell (p := ⟨g, o + k * 4 + 1, none⟩) hg).trans k1
      have s2 := (HB.out.cell (p := ⟨g, o + k * 4 + 2, none⟩) hg).trans k2
      have s3 := (HB.out.cell (p := ⟨g, o + k * 4 + 3, none⟩) hg).trans k3
      have hltz : (k : Int) < (T.length : Int) := by omega
      obtain ⟨e1, e2, e3⟩ := HSH.out _ (List.getElem_mem hlt)
      have HC := Lib.hid (fun W (h : Below w.heap.size w W) => ownTrace9_any T[k] (trV (.slice a2 T[k].2.1.length c2) T[k]) W ⟨a2, c2, rfl, hrk.below h⟩ (fun y hy => by have := e1 y hy; omega) (by omega) (by omega))
      have HT : Hid (T.take k ++ [T[k]] = T.take (k + 1)) := (List.take_succ_eq_append_getElem hlt).symm
      have hln : (T.take k).length ≤ 1000000 := by rw [List.length_take]; omega
      have HXB := Lib.hid (HB.out.alloc HB.out.size (.cells #[.int .i64 T[k].1, .slice a2 T[k].2.1.length c2, .string ⟨T[k].2.2.1.toArray⟩, .int .i64 T[k].2.2.2] 50))
      have HXN := Lib.hid (HN.out.below ((Below.refl wr.heap.size wr).alloc (Nat.le_refl _) (.cells #[.int .i64 T[k].1, .slice a2 T[k].2.1.length c2, .string ⟨T[k].2.2.1.toArray⟩, .int .i64 T[k].2.2.2] 50)))
      clear k0 k1 k2 k3 hrk e1 e2 e3 HN
      generalize T.take k = acc at *
      generalize T[k] = z at *
      obtain ⟨z1, zi, z2, z3⟩ := z
      unfold trV TrPost trV at HC
      simp only at s0 s1 s2 s3 HC HXB HXN
      go_wp2_with fail
      refine (HC.out _ HXB.out).mono ?_
      rintro e w1 ⟨b1, d1, rfl, ho1, hb1⟩
      have HN1 := Lib.hid (HXN.out.below hb1)
      have HB1 := Lib.hid (bth HXB.out hb1 (Nat.le_refl _))
      have hL := HXN.out.2.2.snoc hb1 ho1 (Nat.le_refl _) HXB.out.size
      obtain ⟨v2, w2, hrun, hN2, hg2, _⟩ := OwnT.push (t := (z1, zi, z2, z3)) HN1.out.1 HN1.out.2.1 hL hln HB1.out.size 39
      have HRUN := Lib.hid hrun
      have HN2 := Lib.hid hN2
      have HB2 := Lib.hid (HB1.out.trans (below_ownA HN1.out.2.1 hg2 HB1.out.size))
      clear hb1 ho1 hL hrun hN2 hg2 HC HXB HXN s0 s1 s2 s3
      go_wp2_with (at_builtin; refine wpList_runApp9 rfl _ _ rfl rfl rfl HRUN.out ?_)
      rw [HT.out] at HN2
      go_roundw
      case rel => exact ⟨k + 1, _, by omega, by go_num, HN2, HB2⟩
      case measure => simp [intOf]; omega
    · rw [List.take_of_length_le (by omega)] at HN
      clear HAT HSH
      go_wp2_with fail
      go_ret
      exact ⟨_, sl, rfl, HN.out, HB.out⟩

end Go.Proofs.YtngldlconipnnaaGreat

/- Walks: a trace that is noted in traces of the call's own, of the program. -/
namespace Go.Proofs.YtngldlconipnnaaGreat
open Go.RowKit Pth

theorem run_cutT (a : Option Addr) (n c k : Nat) (hk : k ≤ n) (_hc : n ≤ c) (W : World) :
    (Instr.slice 39 (.slice a n c) (some (.int .i64 (k : Int))) none none).run Tryz.prog W = .ok (.slice (if c = k then a else a.map (·.add (k * 4))) (n - k) (c - k)) W := by
  have h1 : (k : Int) ≤ n := by omega
  by_cases h : c = k
  · go_simp
  · go_simp
/-- Traces are handed back, in memory of the call's own or of the list that was given. -/
def NotedPost (B : Nat) (lv : Value) (T : List TrT) (w : World) (e : Ending) (w' : World) : Prop := ∃ v sl, e = .returned v ∧ OwnT B w' v sl T ∧ w.grownBy w' lv.ownBlock
theorem grown_below {w w1 w2 : World} {r : Option Nat} (h : Below w.heap.size w w1) (k : w1.grownBy w2 r) : w.grownBy w2 r := grown_trans (below_grown h) k

set_option maxRecDepth 20000 in
set_option maxHeartbeats 8000000 in
theorem withNoted_any (B : Nat) (T : List TrT) (sl : List Value) (t : TrT) (lv : Value) (a : Option Addr) (c : Nat) (w : World) (hs : sl.length = T.length) (hA : OwnA B 50 4 w lv T.length (TC sl T)) (hL : ListsS B w (sl.zip (T.map (·.2.1)) ++ [(.slice a t.2.1.length c, t.2.1)])) (h10 : t.2.1.length ≤ 10) (hsame : SameLen T t.1 t.2.1.length) (h40 : T.length ≤ 40) (hB : B ≤ w.heap.size) :
    Calls Tryz.prog 35 #[lv, trV (.slice a t.2.1.length c) t] w (NotedPost B lv (noteL T t) w) := by
  obtain ⟨t1, ins, x1, x2⟩ := t
  unfold trV
  simp only at hL h10 hsame ⊢
  have hview : RowT w lv T := OwnT.view ⟨hs, hA, hL.left⟩
  have hri : RowV w (.slice a ins.length c) (S ins) := RowV.of_own (hL.right.1 (.slice a ins.length c, ins) (by simp))
  obtain ⟨la, lc, rfl, hlc1, hlc2⟩ := hA.slice
  unfold maxLen at hlc2
  obtain ⟨wa, hwa⟩ : ∃ wa, wa = w.alloc (.cells #[.int .i64 t1, .slice a ins.length c, .string ⟨x1.toArray⟩, .int .i64 x2] 50) := ⟨_, rfl⟩
  have hsz : w.heap.size < wa.heap.size := by rw [hwa]; simp
  have P0 : Hid (Blk4 wa w.heap.size 50 (.int .i64 t1) (.slice a ins.length c) (.string ⟨x1.toArray⟩) (.int .i64 x2)) := by rw [hwa]; exact Blk4.new
  have hAw : Below w.heap.size w wa := by rw [hwa]; exact (Below.refl w.heap.size w).alloc (Nat.le_refl _) _
  have HA := Lib.hid hAw
  have HWA : Hid (w.alloc (.cells #[.int .i64 t1, .slice a ins.length c, .string ⟨x1.toArray⟩, .int .i64 x2] 50) = wa) := by rw [hwa]; rfl
  have HC := Lib.hid (placeOf_any T t1 ins _ _ wa (hview.below hAw) (hri.below hAw) h10 hsame)
  have HRA := Lib.hid (hA.below hAw)
  have HLA := Lib.hid (hL.below hAw)
  have HSL := Lib.hid hs
  obtain ⟨c0, c1, c2, c3⟩ := P0.out.cells
  obtain ⟨f, hf⟩ : ∃ f, findT T t1 ins = f := ⟨_, rfl⟩
  have hBa : B ≤ wa.heap.size := by omega
  clear hwa hview hri hA hL hs hsame
  rcases f with _ | k
  · have HK : Hid (findK T t1 ins = -1) := by show _ = _; unfold findK; rw [hf]
    have HN : Hid (noteL T (t1, ins, x1, x2) = (T ++ [(t1, ins, x1, x2)]).drop (T.length + 1 - 40)) := note_new hf
    rw [HK.out] at HC
    rw [HN.out]
    clear hf
    go_enter Tryz.func35, Tryz.ntmps35
    go_wp2_with fail
    rw [HWA.out]
    refine HC.out.mono ?_
    rintro e w1 ⟨rfl, hb1⟩
    have HB1 := Lib.hid (bth HA.out hb1 (Nat.le_refl _))
    have hB1 : B ≤ w1.heap.size := Nat.le_trans hBa hb1.size
    have HR1 := HRA.out.below hb1
    have HL1 := HLA.out.below hb1
    obtain ⟨v2, w2, hrun, hN2, hg2, _⟩ := OwnT.push (t := (t1, ins, x1, x2)) HSL.out HR1 HL1 (by omega) hB1 39
    have HRUN := Lib.hid hrun
    obtain ⟨va, vc, rfl, hvc1, hvc2⟩ := hN2.2.1.slice
    have hln : (T ++ [((t1, ins, x1, x2) : TrT)]).length = T.length + 1 := by simp
    rw [hln] at hN2 hvc1
    unfold maxLen at hvc2
    have HCUT := Lib.hid (fun k hk => hN2.cut hln.symm k hk)
    have HG2 := Lib.hid (grown_below HB1.out hg2)
    obtain ⟨c0, c1, c2, c3⟩ := (P0.out.below hb1 hsz).cells
    clear hb1 HR1 HL1 hrun hN2 hg2 HC hln
    go_wp2_with (at_builtin; refine wpList_runApp9 rfl _ _ rfl rfl rfl HRUN.out ?_)
    clear c0 c1 c2 c3 HRUN
    have hkk : (max (0 : Int) ((T.length : Int) + 1 - 40)).toNat = T.length + 1 - 40 := by omega
    have hfin := HCUT.out (T.length + 1 - 40) (by omega)
    rw [if_neg (by omega)] at hfin
    have HFIN := Lib.hid hfin
    have HKK := Lib.hid hkk
    clear hfin hkk HCUT
    go_wp2_with fail
    go_ret
    exact ⟨_, _, rfl, by rw [HKK.out]; exact HFIN.out, HG2.out⟩
  · have hk := findT_lt hf
    have HK : Hid (findK T t1 ins = (k : Int)) := by show _ = _; unfold findK; rw [hf]
    have HN : Hid (noteL T (t1, ins, x1, x2) = T.set k (t1, ins, x1, x2)) := note_put hf
    rw [HK.out] at HC
    rw [HN.out]
    obtain ⟨g, o, lc', hv, _, _, _, _⟩ := HRA.out.addr (by omega)
    injection hv with hv1 _ hv3
    subst hv1 hv3
    have hkz : (k : Int) < (T.length : Int) := by omega
    clear hf
    go_enter Tryz.func35, Tryz.ntmps35
    go_wp2_with fail
    rw [HWA.out]
    refine HC.out.mono ?_
    rintro e w1 ⟨rfl, hb1⟩
    have HB1 := Lib.hid (bth HA.out hb1 (Nat.le_refl _))
    have HR1 := HRA.out.below hb1
    have HL1 := HLA.out.below hb1
    have hput := OwnT.put (t := (t1, ins, x1, x2)) HSL.out rfl HR1 HL1 hk
    have HN2 := Lib.hid hput.1
    have HG2 := Lib.hid (grown_below HB1.out hput.2)
    obtain ⟨q0, q1, q2, q3⟩ := HR1.atT HSL.out hk
    have g0 := HR1.soft (o + k * 4)
    have g1 := HR1.soft (o + k * 4 + 1)
    have g2 := HR1.soft (o + k * 4 + 2)
    have g3 := HR1.soft (o + k * 4 + 3)
    obtain ⟨c0, c1, c2, c3⟩ := (P0.out.below hb1 hsz).cells
    simp only at HN2 HG2
    clear hb1 HR1 HL1 hput HC
    generalize T[k].1 = y0 at q0
    generalize sl[k]'(by have := HSL.out; omega) = y1 at q1
    generalize T[k].2.2.1 = y2 at q2
    generalize T[k].2.2.2 = y3 at q3
    go_wp2_with fail
    go_ret
    exact ⟨_, _, rfl, HN2.out, HG2.out⟩

end Go.Proofs.YtngldlconipnnaaGreat
