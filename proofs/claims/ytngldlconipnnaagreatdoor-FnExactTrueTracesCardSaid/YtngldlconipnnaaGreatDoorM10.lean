/- Texts of one claim, joined in their order. -/
import Derived.Test.YtngldlconipnnaaGreatDoorM9
import Derived.Test.YtngldlconipnnaaGreatDoorM6

/- Walks: whether traces are good, of both. -/
namespace Go.Proofs.YtngldlconipnnaaGreatDoor
open Go.RowKit Pth

theorem goodT_noP {ls : List (List Int)} {l : List Int} {bs : List Bool} {rs : List (List OpT)} {T : List TrT} (h : planA ls l bs rs = false) : goodT ls l bs rs T = false := by unfold goodT; rw [h]; rfl
theorem goodT_many {ls : List (List Int)} {l : List Int} {bs : List Bool} {rs : List (List OpT)} {T : List TrT} (h : ¬ T.length ≤ 40) : goodT ls l bs rs T = false := by unfold goodT; rw [decide_eq_false h]; simp
theorem trP_next {ls : List (List Int)} {bs : List Bool} {T : List TrT} {k : Nat} (h : ∀ j, j < k → trP ls bs T j = true) (hk : trP ls bs T k = true) : ∀ j, j < k + 1 → trP ls bs T j = true := fun j hj => by
  rcases Nat.lt_or_ge j k with h1 | h1
  · exact h j h1
  · rw [show j = k by omega]; exact hk
theorem trP_take {ls : List (List Int)} {bs : List Bool} {T : List TrT} {k : Nat} (h : ∀ j, j < k → trP ls bs T j = true) (hk : k ≤ T.length) : ∀ t ∈ T.take k, traceA ls bs t = true := fun t ht => by
  obtain ⟨j, hj, rfl⟩ := List.getElem_of_mem ht
  rw [List.length_take] at hj
  have := h j (by omega)
  rw [trP_at (by omega), Bool.and_eq_true] at this
  rw [List.getElem_take]; exact this.1

set_option maxRecDepth 20000 in
set_option maxHeartbeats 8000000 in
theorem specGood9_any (ls : List (List Int)) (l : List Int) (bs : List Bool) (rs : List (List OpT)) (T : List TrT) (v x : Value) (w : World) (hp : PlanV w v ls l bs rs) (hT : RowT w x T) (hx : ∀ l ∈ rs, ∀ f ∈ l, f.2.2.length ≤ maxLen) (hxT : ∀ t ∈ T, HeldT maxLen t) :
    Calls Tryz.prog 19 #[v, x] w (BoolPost (goodT ls l bs rs T) w) := by
  have HV := Lib.hid hp
  obtain ⟨nv, ov, sv, rv, rfl, h1, h2, h3, h4⟩ := hp
  obtain ⟨as0, cs, rfl, hs1, hs2, hats⟩ := h3.boolsW
  obtain ⟨an, cn, rfl, hn1, hn2, hatn⟩ := h1.lists
  obtain ⟨ao, co, rfl, ho1, ho2, hato⟩ := h2.ints
  obtain ⟨ar, cr, rfl, hr1, hr2, hatr⟩ := h4.lists
  clear h1 h2 h3 h4
  unfold maxLen at hs2 hn2 ho2 hr2
  obtain ⟨wa, hwa⟩ : ∃ wa, wa = w.alloc (.cells #[.slice an ls.length cn, .slice ao l.length co, .slice as0 bs.length cs, .slice ar rs.length cr] 30) := ⟨_, rfl⟩
  have hsz : w.heap.size < wa.heap.size := by rw [hwa]; simp
  have P0 : Hid (Blk4 wa w.heap.size 30 (.slice an ls.length cn) (.slice ao l.length co) (.slice as0 bs.length cs) (.slice ar rs.length cr)) := by rw [hwa]; exact Blk4.new
  have HA : Hid (Below w.heap.size w wa) := by rw [hwa]; exact (Below.refl w.heap.size w).alloc (Nat.le_refl _) _
  have HWA : Hid (w.alloc (.cells #[.slice an ls.length cn, .slice ao l.length co, .slice as0 bs.length cs, .slice ar rs.length cr] 30) = wa) := by rw [hwa]; rfl
  have HVW : Hid (∀ W, Below wa.heap.size wa W → PlanV W (.agg #[.slice an ls.length cn, .slice ao l.length co, .slice as0 bs.length cs, .slice ar rs.length cr]) ls l bs rs) := fun W h => HV.out.below (bth HA.out h (Nat.le_refl _))
  clear hwa
  have HTR := Lib.hid hT
  obtain ⟨a, cap, rfl, hc1, hc2, hat⟩ := hT.traces
  unfold maxLen at hc2
  have HAT := Lib.hid hat
  have HXT := Lib.hid hxT
  obtain ⟨R, hR⟩ : ∃ R, goodT ls l bs rs T = R := ⟨_, rfl⟩
  have HRR := Lib.hid hR
  rw [hR]
  obtain ⟨b, hb⟩ : ∃ b, planA ls l bs rs = b := ⟨_, rfl⟩
  have HC := Lib.hid (specPlan_b hb _ wa (HVW.out wa (Below.refl _ _)) hx)
  have HPL := Lib.hid hb
  obtain ⟨c0, c1, c2', c3⟩ := P0.out.cells
  clear hT hat hxT hR hb hx hats hatn hato hatr
  rcases b with _ | _
  · have HE : Hid (R = false) := by rw [← HRR.out]; exact goodT_noP HPL.out
    go_enter Tryz.func19, Tryz.ntmps19
    go_wp2_with fail
    rw [HWA.out]
    refine HC.out.mono ?_
    rintro e w1 ⟨rfl, hb1⟩
    have HB1 := Lib.hid (bth HA.out hb1 (Nat.le_refl _))
    clear hb1 c0 c1 c2' c3
    go_wp2_with fail
    go_ret
    exact ⟨by rw [HE.out] <;> rfl, HB1.out⟩
  by_cases h40 : T.length ≤ 40
  · have hd : decide ((T.length : Int) > 40) = false := by simp; omega
    have H40 := Lib.hid h40
    go_enter Tryz.func19, Tryz.ntmps19
    go_wp2_with fail
    rw [HWA.out]
    refine HC.out.mono ?_
    rintro e w1 ⟨rfl, hb1⟩
    have HB1 := Lib.hid hb1
    clear hb1 c0 c1 c2' c3 HC
    go_wp2_with fail
    go_loopw [17] (fun i wr => ∃ k : Nat, k ≤ T.length ∧ i = .int .i64 k ∧ Hid (Below wa.heap.size wa wr) ∧ Hid (∀ j, j < k → trP ls bs T j = true)) (fun i _ => T.length - (intOf i).toNat)
    case atStart => exact ⟨0, Nat.zero_le _, rfl, HB1, fun j hj => by omega⟩
    case round =>
      clear HB1
      obtain ⟨k, hk, rfl, HB, HO⟩ := hrel
      have HBW := Lib.hid (bth HA.out HB.out (Nat.le_refl _))
      by_cases hlt : k < T.length
      · obtain ⟨g, o, a2, c2, rfl, hg, ⟨k0, k1, k2, k3⟩, hrk⟩ := HAT.out k hlt
        have s0 := (HBW.out.cell (p := ⟨g, o + k * 4, none⟩) hg).trans k0
        have s1 := (HBW.out.cell (p := ⟨g, o + k * 4 + 1, none⟩) hg).trans k1
        have s2 := (HBW.out.cell (p := ⟨g, o + k * 4 + 2, none⟩) hg).trans k2
        have s3 := (HBW.out.cell (p := ⟨g, o + k * 4 + 3, none⟩) hg).trans k3
        have hltz : (k : Int) < (T.length : Int) := by omega
        have hkc : (k : Int) ≤ (cap : Int) := by omega
        have HTP : Hid (trP ls bs T k = (traceA ls bs T[k] && (findT (T.take k) T[k].1 T[k].2.1).isNone)) := trP_at hlt
        have HQ : Hid (decide (0 ≤ findK (T.take k) T[k].1 T[k].2.1) = (findT (T.take k) T[k].1 T[k].2.1).isSome) := isSome_findK _ _ _
        obtain ⟨bt, hbt⟩ : ∃ bt, traceA ls bs T[k] = bt := ⟨_, rfl⟩
        have HC1 := Lib.hid (fun W (h : Below w.heap.size w W) => specTrace9_b ls l bs rs T[k] hbt _ (trV (.slice a2 T[k].2.1.length c2) T[k]) W (HV.out.below h) ⟨a2, c2, rfl, hrk.below h⟩ HPL.out (HXT.out _ (List.getElem_mem hlt)))
        have HC2 : Hid (bt = true → ∀ W, Below w.heap.size w W → Calls Tryz.prog 57 #[.slice (some ⟨g, o, none⟩) k cap, .int .i64 T[k].1, .slice a2 T[k].2.1.length c2] W fun e w' => e = .returned (.int .i64 (findK (T.take k) T[k].1 T[k].2.1)) ∧ Below W.heap.size W w') := fun ht W h => by
          exact specFind_any (T.take k) T[k].1 T[k].2.1 _ _ W ((HTR.out.below h).front rfl k (by omega)) (hrk.below h)
        rw [hbt] at HTP
        have hsr := Nat.lt_of_lt_of_le hsz HB.out.size
        clear k0 k1 k2 k3 hrk hbt HAT HXT HTR
        generalize findT (T.take k) T[k].1 T[k].2.1 = fo at *
        generalize findK (T.take k) T[k].1 T[k].2.1 = q at *
        generalize T[k] = z at *
        obtain ⟨x1, xi, x2, x3⟩ := z
        unfold trV at HC1
        simp only at s0 s1 s2 s3 HC1 HC2
        generalize xi.length = nx at *
        obtain ⟨wx, hwx⟩ : ∃ wx, wx = wr.alloc (.cells #[.int .i64 x1, .slice a2 nx c2, .string ⟨x2.toArray⟩, .int .i64 x3] 95) := ⟨_, rfl⟩
        have hxb : Below wr.heap.size wr wx := by rw [hwx]; exact (Below.refl wr.heap.size wr).alloc (Nat.le_refl _) _
        have hltx : wr.heap.size < wx.drew.heap.size := by show _ < wx.heap.size; rw [hwx]; simp
        have hltp : w.heap.size < wx.drew.heap.size := by omega
        have XD : Hid (Blk4 wx.drew wr.heap.size 95 (.int .i64 x1) (.slice a2 nx c2) (.string ⟨x2.toArray⟩) (.int .i64 x3)) := by show Blk4 wx _ _ _ _ _ _; rw [hwx]; exact Blk4.new
        have HBX := Lib.hid (bth HB.out hxb (Nat.le_refl _))
        have PD : Hid (Blk4 wx.drew w.heap.size 30 (.slice an ls.length cn) (.slice ao l.length co) (.slice as0 bs.length cs) (.slice ar rs.length cr)) := P0.out.below (Below.drew HBX.out) hsz
        have HBD := Lib.hid (bth HA.out (Below.drew HBX.out) (Nat.le_refl _))
        have HWX : Hid (wr.alloc (.cells #[.int .i64 x1, .slice a2 nx c2, .string ⟨x2.toArray⟩, .int .i64 x3] 95) = wx) := by rw [hwx]; rfl
        have ks := And.intro PD.out.cells XD.out.cells
        clear hwx hxb
        rcases bt with _ | _
        · have HE : Hid (R = false) := by rw [← HRR.out]; exact goodT_not hlt (by rw [HTP.out]; rfl)
          clear HC2 HQ HTP
          go_wp2_with fail
          rw [HWX.out]
          refine wp_region_held_drew (S := fun w' => (w'.cell? ⟨w.heap.size, 0, none⟩ = some (.slice an ls.length cn) ∧ w'.cell? ⟨w.heap.size, 1, none⟩ = some (.slice ao l.length co) ∧ w'.cell? ⟨w.heap.size, 2, none⟩ = some (.slice as0 bs.length cs) ∧ w'.cell? ⟨w.heap.size, 3, none⟩ = some (.slice ar rs.length cr)) ∧ (w'.cell? ⟨wr.heap.size, 0, none⟩ = some (.int .i64 x1) ∧ w'.cell? ⟨wr.heap.size, 1, none⟩ = some (.slice a2 nx c2) ∧ w'.cell? ⟨wr.heap.size, 2, none⟩ = some (.string ⟨x2.toArray⟩) ∧ w'.cell? ⟨wr.heap.size, 3, none⟩ = some (.int .i64 x3))) (by kernel_rfl) ks (fun hS0 => ?_)
          change wpAnyH _ _ _ _ _ 15 #[false, false, false, false, false, false, false, false, false, false, false, false, false, false, false] _ _
          refine wpAnyH_take (i := 0) (v := ?v0) rfl (by kernel_rfl) (by kernel_rfl) (by kernel_rfl) (fun _ _ _ h => h) (Or.inl ⟨rfl, ?y0⟩) (by assumption) ?r0
          case y0 => (intro w' hSw; (try dsimp only at hSw); go_simp; (try with_reducible rfl))
          try simp only [List.getElem_toArray, List.getElem_cons_zero, Act.put, List.setIfInBounds_toArray, List.set_cons_zero, List.set_cons_succ]
          refine wpAnyH_take (i := 1) (v := ?v1) rfl (by kernel_rfl) (by kernel_rfl) (by kernel_rfl) (fun _ _ _ h => h) (Or.inl ⟨rfl, ?y1⟩) (by assumption) ?r1
          case y1 => (intro w' hSw; (try dsimp only at hSw); go_simp; (try with_reducible rfl))
          try simp only [List.getElem_toArray, List.getElem_cons_succ, List.getElem_cons_zero, Act.put, List.setIfInBounds_toArray, List.set_cons_zero, List.set_cons_succ]
          refine wpAnyH_ready (rs := [2]) (by kernel_rfl) (by simp) ?_
          refine AllReadyH.cons rfl (fun K' hK => ?_) AllReadyH.nil
          go_simp
          go_wp2_with (go_at_call 70; refine (HC1.out _ (by exact HBD.out)).mono ?_; rintro e w7 ⟨rfl, hb7⟩
                       have k7 := And.intro (PD.out.below hb7 hltp).cells (XD.out.below hb7 hltx).cells
                       have D7 := Lib.hid (bth HBD.out hb7 (Nat.le_refl _))
                       clear hb7)
          refine hK.out _ _ k7 (fun hS1 => ?_)
          clear hK
          try simp only [List.setIfInBounds_toArray, List.set_cons_zero, List.set_cons_succ]
          refine wpAnyH_take (i := 3) (v := ?v3) rfl (by kernel_rfl) (by kernel_rfl) (by kernel_rfl) (fun _ _ _ h => h) (Or.inl ⟨rfl, ?y3⟩) (by assumption) ?r3
          case y3 => (intro w' hSw; (try dsimp only at hSw); go_simp; (try with_reducible rfl))
          try simp only [List.getElem_toArray, List.getElem_cons_succ, List.getElem_cons_zero, Act.put, List.setIfInBounds_toArray, List.set_cons_zero, List.set_cons_succ]
          refine wpAnyH_take (i := 4) (v := ?v4) rfl (by kernel_rfl) (by kernel_rfl) (by kernel_rfl) (fun _ _ _ h => h) (Or.inl ⟨rfl, ?y4⟩) (by assumption) ?r4
          case y4 => (intro w' hSw; (try dsimp only at hSw); go_simp; (try with_reducible rfl))
          try simp only [List.getElem_toArray, List.getElem_cons_succ, List.getElem_cons_zero, Act.put, List.setIfInBounds_toArray, List.set_cons_zero, List.set_cons_succ]
          refine wpAnyH_take (i := 5) (v := undef) rfl (by kernel_rfl) (by kernel_rfl) (by kernel_rfl) (fun _ _ _ h => h) (Or.inr ⟨rfl, rfl⟩) (by assumption) ?r5
          try simp only [List.getElem_toArray, List.getElem_cons_succ, List.getElem_cons_zero, Act.put, List.setIfInBounds_toArray, List.set_cons_zero, List.set_cons_succ]
          refine wpAnyH_take (i := 6) (v := undef) rfl (by kernel_rfl) (by kernel_rfl) (by kernel_rfl) (fun _ _ _ h => h) (Or.inr ⟨rfl, rfl⟩) (by assumption) ?r6
          try simp only [List.getElem_toArray, List.getElem_cons_succ, List.getElem_cons_zero, Act.put, List.setIfInBounds_toArray, List.set_cons_zero, List.set_cons_succ]
          refine wpAnyH_take (i := 7) (v := undef) rfl (by kernel_rfl) (by kernel_rfl) (by kernel_rfl) (fun _ _ _ h => h) (Or.inr ⟨rfl, rfl⟩) (by assumption) ?r7
          try simp only [List.getElem_toArray, List.getElem_cons_succ, List.getElem_cons_zero, Act.put, List.setIfInBounds_toArray, List.set_cons_zero, List.set_cons_succ]
          refine wpAnyH_take (i := 8) (v := undef) rfl (by kernel_rfl) (by kernel_rfl) (by kernel_rfl) (fun _ _ _ h => h) (Or.inr ⟨rfl, rfl⟩) (by assumption) ?r8
          try simp only [List.getElem_toArray, List.getElem_cons_succ, List.getElem_cons_zero, Act.put, List.setIfInBounds_toArray, List.set_cons_zero, List.set_cons_succ]
          refine wpAnyH_take (i := 9) (v := undef) rfl (by kernel_rfl) (by kernel_rfl) (by kernel_rfl) (fun _ _ _ h => h) (Or.inr ⟨rfl, rfl⟩) (by assumption) ?r9
          try simp only [List.getElem_toArray, List.getElem_cons_succ, List.getElem_cons_zero, Act.put, List.setIfInBounds_toArray, List.set_cons_zero, List.set_cons_succ]
          refine wpAnyH_take (i := 10) (v := undef) rfl (by kernel_rfl) (by kernel_rfl) (by kernel_rfl) (fun _ _ _ h => h) (Or.inr ⟨rfl, rfl⟩) (by assumption) ?r10
          try simp only [List.getElem_toArray, List.getElem_cons_succ, List.getElem_cons_zero, Act.put, List.setIfInBounds_toArray, List.set_cons_zero, List.set_cons_succ]
          refine wpAnyH_take (i := 11) (v := undef) rfl (by kernel_rfl) (by kernel_rfl) (by kernel_rfl) (fun _ _ _ h => h) (Or.inr ⟨rfl, rfl⟩) (by assumption) ?r11
          try simp only [List.getElem_toArray, List.getElem_cons_succ, List.getElem_cons_zero, Act.put, List.setIfInBounds_toArray, List.set_cons_zero, List.set_cons_succ]
          refine wpAnyH_take (i := 12) (v := undef) rfl (by kernel_rfl) (by kernel_rfl) (by kernel_rfl) (fun _ _ _ h => h) (Or.inr ⟨rfl, rfl⟩) (by assumption) ?r12
          try simp only [List.getElem_toArray, List.getElem_cons_succ, List.getElem_cons_zero, Act.put, List.setIfInBounds_toArray, List.set_cons_zero, List.set_cons_succ]
          refine wpAnyH_take (i := 13) (v := undef) rfl (by kernel_rfl) (by kernel_rfl) (by kernel_rfl) (fun _ _ _ h => h) (Or.inr ⟨rfl, rfl⟩) (by assumption) ?r13
          try simp only [List.getElem_toArray, List.getElem_cons_succ, List.getElem_cons_zero, Act.put, List.setIfInBounds_toArray, List.set_cons_zero, List.set_cons_succ]
          refine wpAnyH_take (i := 14) (v := ?v14) rfl (by kernel_rfl) (by kernel_rfl) (by kernel_rfl) (fun _ _ _ h => h) (Or.inl ⟨rfl, ?y14⟩) (by assumption) ?r14
          case y14 => (intro w' hSw; (try dsimp only at hSw); go_simp; (try with_reducible rfl))
          try simp only [List.getElem_toArray, List.getElem_cons_succ, List.getElem_cons_zero, Act.put, List.setIfInBounds_toArray, List.set_cons_zero, List.set_cons_succ]
          refine wpAnyH_done (by kernel_rfl) ?_ _
          go_wp2_with fail
          go_ret
          exact ⟨by rw [HE.out] <;> rfl, D7.out⟩
        · have HC3 := Lib.hid (HC2.out rfl)
          clear HC2
          rcases fo with _ | fo
          · have hq : ¬ (0 ≤ q) := by have := HQ.out; simpa using this
            have HO2 := Lib.hid (trP_next HO.out (by rw [HTP.out]; rfl))
            clear HQ HTP HO
            go_wp2_with fail
            rw [HWX.out]
            go_region_held3 (fun w' => (w'.cell? ⟨w.heap.size, 0, none⟩ = some (.slice an ls.length cn) ∧ w'.cell? ⟨w.heap.size, 1, none⟩ = some (.slice ao l.length co) ∧ w'.cell? ⟨w.heap.size, 2, none⟩ = some (.slice as0 bs.length cs) ∧ w'.cell? ⟨w.heap.size, 3, none⟩ = some (.slice ar rs.length cr)) ∧ (w'.cell? ⟨wr.heap.size, 0, none⟩ = some (.int .i64 x1) ∧ w'.cell? ⟨wr.heap.size, 1, none⟩ = some (.slice a2 nx c2) ∧ w'.cell? ⟨wr.heap.size, 2, none⟩ = some (.string ⟨x2.toArray⟩) ∧ w'.cell? ⟨wr.heap.size, 3, none⟩ = some (.int .i64 x3))) (first | exact ks)
          (first
            | (go_at_call 70; refine (HC1.out _ (by exact HBD.out)).mono ?_; rintro e w7 ⟨rfl, hb7⟩
               have ks := And.intro (PD.out.below hb7 hltp).cells (XD.out.below hb7 hltx).cells
               have C7 := Lib.hid hb7
               have D7 := Lib.hid (bth HBD.out hb7 (Nat.le_refl _))
               clear hb7)
            | (go_at_call 57; refine (HC3.out _ (by exact D7.out)).mono ?_; rintro e w8 ⟨rfl, hb8⟩
               have C8 := Lib.hid (bth C7.out hb8 (Nat.le_refl _))
               have ks := And.intro (PD.out.below C8.out hltp).cells (XD.out.below C8.out hltx).cells
               have D8 := Lib.hid (bth D7.out hb8 (Nat.le_refl _))
               clear hb8))
            have HB8 := Lib.hid (bth (Below.drew HBX.out) C8.out (Nat.le_refl _))
            clear ks C7 C8 D7 D8 PD XD HBD
            go_wp2_with fail
            go_roundw
            case rel => exact ⟨k + 1, by omega, by go_num, HB8, HO2⟩
            case measure => simp [intOf]; omega
          · have hq : 0 ≤ q := by have := HQ.out; simpa using this
            have HE : Hid (R = false) := by rw [← HRR.out]; exact goodT_not hlt (by rw [HTP.out]; rfl)
            clear HQ HTP HO
            go_wp2_with fail
            rw [HWX.out]
            go_region_held3 (fun w' => (w'.cell? ⟨w.heap.size, 0, none⟩ = some (.slice an ls.length cn) ∧ w'.cell? ⟨w.heap.size, 1, none⟩ = some (.slice ao l.length co) ∧ w'.cell? ⟨w.heap.size, 2, none⟩ = some (.slice as0 bs.length cs) ∧ w'.cell? ⟨w.heap.size, 3, none⟩ = some (.slice ar rs.length cr)) ∧ (w'.cell? ⟨wr.heap.size, 0, none⟩ = some (.int .i64 x1) ∧ w'.cell? ⟨wr.heap.size, 1, none⟩ = some (.slice a2 nx c2) ∧ w'.cell? ⟨wr.heap.size, 2, none⟩ = some (.string ⟨x2.toArray⟩) ∧ w'.cell? ⟨wr.heap.size, 3, none⟩ = some (.int .i64 x3))) (first | exact ks)
          (first
            | (go_at_call 70; refine (HC1.out _ (by exact HBD.out)).mono ?_; rintro e w7 ⟨rfl, hb7⟩
               have ks := And.intro (PD.out.below hb7 hltp).cells (XD.out.below hb7 hltx).cells
               have C7 := Lib.hid hb7
               have D7 := Lib.hid (bth HBD.out hb7 (Nat.le_refl _))
               clear hb7)
            | (go_at_call 57; refine (HC3.out _ (by exact D7.out)).mono ?_; rintro e w8 ⟨rfl, hb8⟩
               have C8 := Lib.hid (bth C7.out hb8 (Nat.le_refl _))
               have ks := And.intro (PD.out.below C8.out hltp).cells (XD.out.below C8.out hltx).cells
               have D8 := Lib.hid (bth D7.out hb8 (Nat.le_refl _))
               clear hb8))
            have HB8 := Lib.hid D8.out
            clear ks C7 C8 D7 D8 PD XD HBD
            go_wp2_with fail
            go_ret
            exact ⟨by rw [HE.out] <;> rfl, HB8.out⟩
      · have hltz : ¬ ((k : Int) < (T.length : Int)) := by omega
        have HE : Hid (R = true) := by rw [← HRR.out]; exact goodT_of HPL.out H40.out (fun j hj => HO.out j (by omega))
        clear HAT HXT HO HTR
        go_wp2_with fail
        go_ret
        exact ⟨by rw [HE.out] <;> rfl, HBW.out⟩
  · have hd : decide ((T.length : Int) > 40) = true := by simp; omega
    have HE : Hid (R = false) := by rw [← HRR.out]; exact goodT_many h40
    clear HAT HXT HTR h40
    go_enter Tryz.func19, Tryz.ntmps19
    go_wp2_with fail
    rw [HWA.out]
    refine HC.out.mono ?_
    rintro e w1 ⟨rfl, hb1⟩
    have HB1 := Lib.hid (bth HA.out hb1 (Nat.le_refl _))
    clear hb1 c0 c1 c2' c3
    go_wp2_with fail
    go_ret
    exact ⟨by rw [HE.out] <;> rfl, HB1.out⟩
theorem specGood9_b {ls : List (List Int)} {l : List Int} {bs : List Bool} {rs : List (List OpT)} {T : List TrT} {b : Bool} (h : goodT ls l bs rs T = b) (v x : Value) (w : World) (hp : PlanV w v ls l bs rs) (hT : RowT w x T) (hx : ∀ l ∈ rs, ∀ f ∈ l, f.2.2.length ≤ maxLen) (hxT : ∀ t ∈ T, HeldT maxLen t) :
    Calls Tryz.prog 19 #[v, x] w (BoolPost b w) := by
  subst h
  exact specGood9_any ls l bs rs T v x w hp hT hx hxT

set_option maxRecDepth 20000 in
set_option maxHeartbeats 8000000 in
theorem implGood9_any (ls : List (List Int)) (l : List Int) (bs : List Bool) (rs : List (List OpT)) (T : List TrT) (v x : Value) (w : World) (hp : PlanV w v ls l bs rs) (hT : RowT w x T) (hx : ∀ l ∈ rs, ∀ f ∈ l, f.2.2.length ≤ maxLen) (hxT : ∀ t ∈ T, HeldT maxLen t) :
    Calls Tryz.prog 16 #[v, x] w (BoolPost (goodT ls l bs rs T) w) := by
  have HV := Lib.hid hp
  obtain ⟨nv, ov, sv, rv, rfl, h1, h2, h3, h4⟩ := hp
  obtain ⟨as0, cs, rfl, hs1, hs2, hats⟩ := h3.boolsW
  obtain ⟨an, cn, rfl, hn1, hn2, hatn⟩ := h1.lists
  obtain ⟨ao, co, rfl, ho1, ho2, hato⟩ := h2.ints
  obtain ⟨ar, cr, rfl, hr1, hr2, hatr⟩ := h4.lists
  clear h1 h2 h3 h4
  unfold maxLen at hs2 hn2 ho2 hr2
  obtain ⟨wa, hwa⟩ : ∃ wa, wa = w.alloc (.cells #[.slice an ls.length cn, .slice ao l.length co, .slice as0 bs.length cs, .slice ar rs.length cr] 30) := ⟨_, rfl⟩
  have hsz : w.heap.size < wa.heap.size := by rw [hwa]; simp
  have P0 : Hid (Blk4 wa w.heap.size 30 (.slice an ls.length cn) (.slice ao l.length co) (.slice as0 bs.length cs) (.slice ar rs.length cr)) := by rw [hwa]; exact Blk4.new
  have HA : Hid (Below w.heap.size w wa) := by rw [hwa]; exact (Below.refl w.heap.size w).alloc (Nat.le_refl _) _
  have HWA : Hid (w.alloc (.cells #[.slice an ls.length cn, .slice ao l.length co, .slice as0 bs.length cs, .slice ar rs.length cr] 30) = wa) := by rw [hwa]; rfl
  have HVW : Hid (∀ W, Below wa.heap.size wa W → PlanV W (.agg #[.slice an ls.length cn, .slice ao l.length co, .slice as0 bs.length cs, .slice ar rs.length cr]) ls l bs rs) := fun W h => HV.out.below (bth HA.out h (Nat.le_refl _))
  clear hwa
  have HTR := Lib.hid hT
  obtain ⟨a, cap, rfl, hc1, hc2, hat⟩ := hT.traces
  unfold maxLen at hc2
  have HAT := Lib.hid hat
  have HXT := Lib.hid hxT
  obtain ⟨R, hR⟩ : ∃ R, goodT ls l bs rs T = R := ⟨_, rfl⟩
  have HRR := Lib.hid hR
  rw [hR]
  obtain ⟨b, hb⟩ : ∃ b, planA ls l bs rs = b := ⟨_, rfl⟩
  have HC := Lib.hid (implPlan_b hb _ wa (HVW.out wa (Below.refl _ _)) hx)
  have HPL := Lib.hid hb
  obtain ⟨c0, c1, c2', c3⟩ := P0.out.cells
  clear hT hat hxT hR hb hx hats hatn hato hatr
  rcases b with _ | _
  · have HE : Hid (R = false) := by rw [← HRR.out]; exact goodT_noP HPL.out
    go_enter Tryz.func16, Tryz.ntmps16
    go_wp2_with fail
    rw [HWA.out]
    refine HC.out.mono ?_
    rintro e w1 ⟨rfl, hb1⟩
    have HB1 := Lib.hid (bth HA.out hb1 (Nat.le_refl _))
    clear hb1 c0 c1 c2' c3
    go_wp2_with fail
    go_ret
    exact ⟨by rw [HE.out] <;> rfl, HB1.out⟩
  by_cases h40 : T.length ≤ 40
  · have hd : decide ((T.length : Int) > 40) = false := by simp; omega
    have H40 := Lib.hid h40
    go_enter Tryz.func16, Tryz.ntmps16
    go_wp2_with fail
    rw [HWA.out]
    refine HC.out.mono ?_
    rintro e w1 ⟨rfl, hb1⟩
    have HB1 := Lib.hid hb1
    clear hb1 c0 c1 c2' c3 HC
    go_wp2_with fail
    go_loopw [17] (fun i wr => ∃ k : Nat, k ≤ T.length ∧ i = .int .i64 k ∧ Hid (Below wa.heap.size wa wr) ∧ Hid (∀ j, j < k → trP ls bs T j = true)) (fun i _ => T.length - (intOf i).toNat)
    case atStart => exact ⟨0, Nat.zero_le _, rfl, HB1, fun j hj => by omega⟩
    case round =>
      clear HB1
      obtain ⟨k, hk, rfl, HB, HO⟩ := hrel
      have HBW := Lib.hid (bth HA.out HB.out (Nat.le_refl _))
      by_cases hlt : k < T.length
      · obtain ⟨g, o, a2, c2, rfl, hg, ⟨k0, k1, k2, k3⟩, hrk⟩ := HAT.out k hlt
        have s0 := (HBW.out.cell (p := ⟨g, o + k * 4, none⟩) hg).trans k0
        have s1 := (HBW.out.cell (p := ⟨g, o + k * 4 + 1, none⟩) hg).trans k1
        have s2 := (HBW.out.cell (p := ⟨g, o + k * 4 + 2, none⟩) hg).trans k2
        have s3 := (HBW.out.cell (p := ⟨g, o + k * 4 + 3, none⟩) hg).trans k3
        have hltz : (k : Int) < (T.length : Int) := by omega
        have hkc : (k : Int) ≤ (cap : Int) := by omega
        have HTP : Hid (trP ls bs T k = (traceA ls bs T[k] && (findT (T.take k) T[k].1 T[k].2.1).isNone)) := trP_at hlt
        have HQ : Hid (decide (0 ≤ findK (T.take k) T[k].1 T[k].2.1) = (findT (T.take k) T[k].1 T[k].2.1).isSome) := isSome_findK _ _ _
        obtain ⟨bt, hbt⟩ : ∃ bt, traceA ls bs T[k] = bt := ⟨_, rfl⟩
        have HC1 := Lib.hid (fun W (h : Below w.heap.size w W) => implTrace_b ls l bs rs T[k] hbt _ (trV (.slice a2 T[k].2.1.length c2) T[k]) W (HV.out.below h) ⟨a2, c2, rfl, hrk.below h⟩ HPL.out (HXT.out _ (List.getElem_mem hlt)))
        have HC2 : Hid (bt = true → ∀ W, Below w.heap.size w W → Calls Tryz.prog 66 #[.slice (some ⟨g, o, none⟩) k cap, .int .i64 T[k].1, .slice a2 T[k].2.1.length c2] W fun e w' => e = .returned (.int .i64 (findK (T.take k) T[k].1 T[k].2.1)) ∧ Below W.heap.size W w') := fun ht W h => by
          have hta := traceA_parts (hbt.trans ht)
          have hin := insOk_parts hta.1
          exact placeOf_any (T.take k) T[k].1 T[k].2.1 _ _ W ((HTR.out.below h).front rfl k (by omega)) (hrk.below h) (texts_parts hin.2.2.2.2).2 (same_of (trP_take HO.out (by omega)) hta.1)
        rw [hbt] at HTP
        have hsr := Nat.lt_of_lt_of_le hsz HB.out.size
        clear k0 k1 k2 k3 hrk hbt HAT HXT HTR
        generalize findT (T.take k) T[k].1 T[k].2.1 = fo at *
        generalize findK (T.take k) T[k].1 T[k].2.1 = q at *
        generalize T[k] = z at *
        obtain ⟨x1, xi, x2, x3⟩ := z
        unfold trV at HC1
        simp only at s0 s1 s2 s3 HC1 HC2
        generalize xi.length = nx at *
        obtain ⟨wx, hwx⟩ : ∃ wx, wx = wr.alloc (.cells #[.int .i64 x1, .slice a2 nx c2, .string ⟨x2.toArray⟩, .int .i64 x3] 95) := ⟨_, rfl⟩
        have hxb : Below wr.heap.size wr wx := by rw [hwx]; exact (Below.refl wr.heap.size wr).alloc (Nat.le_refl _) _
        have hltx : wr.heap.size < wx.drew.heap.size := by show _ < wx.heap.size; rw [hwx]; simp
        have hltp : w.heap.size < wx.drew.heap.size := by omega
        have XD : Hid (Blk4 wx.drew wr.heap.size 95 (.int .i64 x1) (.slice a2 nx c2) (.string ⟨x2.toArray⟩) (.int .i64 x3)) := by show Blk4 wx _ _ _ _ _ _; rw [hwx]; exact Blk4.new
        have HBX := Lib.hid (bth HB.out hxb (Nat.le_refl _))
        have PD : Hid (Blk4 wx.drew w.heap.size 30 (.slice an ls.length cn) (.slice ao l.length co) (.slice as0 bs.length cs) (.slice ar rs.length cr)) := P0.out.below (Below.drew HBX.out) hsz
        have HBD := Lib.hid (bth HA.out (Below.drew HBX.out) (Nat.le_refl _))
        have HWX : Hid (wr.alloc (.cells #[.int .i64 x1, .slice a2 nx c2, .string ⟨x2.toArray⟩, .int .i64 x3] 95) = wx) := by rw [hwx]; rfl
        have ks := And.intro PD.out.cells XD.out.cells
        clear hwx hxb
        rcases bt with _ | _
        · have HE : Hid (R = false) := by rw [← HRR.out]; exact goodT_not hlt (by rw [HTP.out]; rfl)
          clear HC2 HQ HTP
          go_wp2_with fail
          rw [HWX.out]
          refine wp_region_held_drew (S := fun w' => (w'.cell? ⟨w.heap.size, 0, none⟩ = some (.slice an ls.length cn) ∧ w'.cell? ⟨w.heap.size, 1, none⟩ = some (.slice ao l.length co) ∧ w'.cell? ⟨w.heap.size, 2, none⟩ = some (.slice as0 bs.length cs) ∧ w'.cell? ⟨w.heap.size, 3, none⟩ = some (.slice ar rs.length cr)) ∧ (w'.cell? ⟨wr.heap.size, 0, none⟩ = some (.int .i64 x1) ∧ w'.cell? ⟨wr.heap.size, 1, none⟩ = some (.slice a2 nx c2) ∧ w'.cell? ⟨wr.heap.size, 2, none⟩ = some (.string ⟨x2.toArray⟩) ∧ w'.cell? ⟨wr.heap.size, 3, none⟩ = some (.int .i64 x3))) (by kernel_rfl) ks (fun hS0 => ?_)
          change wpAnyH _ _ _ _ _ 15 #[false, false, false, false, false, false, false, false, false, false, false, false, false, false, false] _ _
          refine wpAnyH_take (i := 0) (v := ?v0) rfl (by kernel_rfl) (by kernel_rfl) (by kernel_rfl) (fun _ _ _ h => h) (Or.inl ⟨rfl, ?y0⟩) (by assumption) ?r0
          case y0 => (intro w' hSw; (try dsimp only at hSw); go_simp; (try with_reducible rfl))
          try simp only [List.getElem_toArray, List.getElem_cons_zero, Act.put, List.setIfInBounds_toArray, List.set_cons_zero, List.set_cons_succ]
          refine wpAnyH_take (i := 1) (v := ?v1) rfl (by kernel_rfl) (by kernel_rfl) (by kernel_rfl) (fun _ _ _ h => h) (Or.inl ⟨rfl, ?y1⟩) (by assumption) ?r1
          case y1 => (intro w' hSw; (try dsimp only at hSw); go_simp; (try with_reducible rfl))
          try simp only [List.getElem_toArray, List.getElem_cons_succ, List.getElem_cons_zero, Act.put, List.setIfInBounds_toArray, List.set_cons_zero, List.set_cons_succ]
          refine wpAnyH_ready (rs := [2]) (by kernel_rfl) (by simp) ?_
          refine AllReadyH.cons rfl (fun K' hK => ?_) AllReadyH.nil
          go_simp
          go_wp2_with (go_at_call 65; refine (HC1.out _ (by exact HBD.out)).mono ?_; rintro e w7 ⟨rfl, hb7⟩
                       have k7 := And.intro (PD.out.below hb7 hltp).cells (XD.out.below hb7 hltx).cells
                       have D7 := Lib.hid (bth HBD.out hb7 (Nat.le_refl _))
                       clear hb7)
          refine hK.out _ _ k7 (fun hS1 => ?_)
          clear hK
          try simp only [List.setIfInBounds_toArray, List.set_cons_zero, List.set_cons_succ]
          refine wpAnyH_take (i := 3) (v := ?v3) rfl (by kernel_rfl) (by kernel_rfl) (by kernel_rfl) (fun _ _ _ h => h) (Or.inl ⟨rfl, ?y3⟩) (by assumption) ?r3
          case y3 => (intro w' hSw; (try dsimp only at hSw); go_simp; (try with_reducible rfl))
          try simp only [List.getElem_toArray, List.getElem_cons_succ, List.getElem_cons_zero, Act.put, List.setIfInBounds_toArray, List.set_cons_zero, List.set_cons_succ]
          refine wpAnyH_take (i := 4) (v := ?v4) rfl (by kernel_rfl) (by kernel_rfl) (by kernel_rfl) (fun _ _ _ h => h) (Or.inl ⟨rfl, ?y4⟩) (by assumption) ?r4
          case y4 => (intro w' hSw; (try dsimp only at hSw); go_simp; (try with_reducible rfl))
          try simp only [List.getElem_toArray, List.getElem_cons_succ, List.getElem_cons_zero, Act.put, List.setIfInBounds_toArray, List.set_cons_zero, List.set_cons_succ]
          refine wpAnyH_take (i := 5) (v := undef) rfl (by kernel_rfl) (by kernel_rfl) (by kernel_rfl) (fun _ _ _ h => h) (Or.inr ⟨rfl, rfl⟩) (by assumption) ?r5
          try simp only [List.getElem_toArray, List.getElem_cons_succ, List.getElem_cons_zero, Act.put, List.setIfInBounds_toArray, List.set_cons_zero, List.set_cons_succ]
          refine wpAnyH_take (i := 6) (v := undef) rfl (by kernel_rfl) (by kernel_rfl) (by kernel_rfl) (fun _ _ _ h => h) (Or.inr ⟨rfl, rfl⟩) (by assumption) ?r6
          try simp only [List.getElem_toArray, List.getElem_cons_succ, List.getElem_cons_zero, Act.put, List.setIfInBounds_toArray, List.set_cons_zero, List.set_cons_succ]
          refine wpAnyH_take (i := 7) (v := undef) rfl (by kernel_rfl) (by kernel_rfl) (by kernel_rfl) (fun _ _ _ h => h) (Or.inr ⟨rfl, rfl⟩) (by assumption) ?r7
          try simp only [List.getElem_toArray, List.getElem_cons_succ, List.getElem_cons_zero, Act.put, List.setIfInBounds_toArray, List.set_cons_zero, List.set_cons_succ]
          refine wpAnyH_take (i := 8) (v := undef) rfl (by kernel_rfl) (by kernel_rfl) (by kernel_rfl) (fun _ _ _ h => h) (Or.inr ⟨rfl, rfl⟩) (by assumption) ?r8
          try simp only [List.getElem_toArray, List.getElem_cons_succ, List.getElem_cons_zero, Act.put, List.setIfInBounds_toArray, List.set_cons_zero, List.set_cons_succ]
          refine wpAnyH_take (i := 9) (v := undef) rfl (by kernel_rfl) (by kernel_rfl) (by kernel_rfl) (fun _ _ _ h => h) (Or.inr ⟨rfl, rfl⟩) (by assumption) ?r9
          try simp only [List.getElem_toArray, List.getElem_cons_succ, List.getElem_cons_zero, Act.put, List.setIfInBounds_toArray, List.set_cons_zero, List.set_cons_succ]
          refine wpAnyH_take (i := 10) (v := undef) rfl (by kernel_rfl) (by kernel_rfl) (by kernel_rfl) (fun _ _ _ h => h) (Or.inr ⟨rfl, rfl⟩) (by assumption) ?r10
          try simp only [List.getElem_toArray, List.getElem_cons_succ, List.getElem_cons_zero, Act.put, List.setIfInBounds_toArray, List.set_cons_zero, List.set_cons_succ]
          refine wpAnyH_take (i := 11) (v := undef) rfl (by kernel_rfl) (by kernel_rfl) (by kernel_rfl) (fun _ _ _ h => h) (Or.inr ⟨rfl, rfl⟩) (by assumption) ?r11
          try simp only [List.getElem_toArray, List.getElem_cons_succ, List.getElem_cons_zero, Act.put, List.setIfInBounds_toArray, List.set_cons_zero, List.set_cons_succ]
          refine wpAnyH_take (i := 12) (v := undef) rfl (by kernel_rfl) (by kernel_rfl) (by kernel_rfl) (fun _ _ _ h => h) (Or.inr ⟨rfl, rfl⟩) (by assumption) ?r12
          try simp only [List.getElem_toArray, List.getElem_cons_succ, List.getElem_cons_zero, Act.put, List.setIfInBounds_toArray, List.set_cons_zero, List.set_cons_succ]
          refine wpAnyH_take (i := 13) (v := undef) rfl (by kernel_rfl) (by kernel_rfl) (by kernel_rfl) (fun _ _ _ h => h) (Or.inr ⟨rfl, rfl⟩) (by assumption) ?r13
          try simp only [List.getElem_toArray, List.getElem_cons_succ, List.getElem_cons_zero, Act.put, List.setIfInBounds_toArray, List.set_cons_zero, List.set_cons_succ]
          refine wpAnyH_take (i := 14) (v := ?v14) rfl (by kernel_rfl) (by kernel_rfl) (by kernel_rfl) (fun _ _ _ h => h) (Or.inl ⟨rfl, ?y14⟩) (by assumption) ?r14
          case y14 => (intro w' hSw; (try dsimp only at hSw); go_simp; (try with_reducible rfl))
          try simp only [List.getElem_toArray, List.getElem_cons_succ, List.getElem_cons_zero, Act.put, List.setIfInBounds_toArray, List.set_cons_zero, List.set_cons_succ]
          refine wpAnyH_done (by kernel_rfl) ?_ _
          go_wp2_with fail
          go_ret
          exact ⟨by rw [HE.out] <;> rfl, D7.out⟩
        · have HC3 := Lib.hid (HC2.out rfl)
          clear HC2
          rcases fo with _ | fo
          · have hq : ¬ (0 ≤ q) := by have := HQ.out; simpa using this
            have HO2 := Lib.hid (trP_next HO.out (by rw [HTP.out]; rfl))
            clear HQ HTP HO
            go_wp2_with fail
            rw [HWX.out]
            go_region_held3 (fun w' => (w'.cell? ⟨w.heap.size, 0, none⟩ = some (.slice an ls.length cn) ∧ w'.cell? ⟨w.heap.size, 1, none⟩ = some (.slice ao l.length co) ∧ w'.cell? ⟨w.heap.size, 2, none⟩ = some (.slice as0 bs.length cs) ∧ w'.cell? ⟨w.heap.size, 3, none⟩ = some (.slice ar rs.length cr)) ∧ (w'.cell? ⟨wr.heap.size, 0, none⟩ = some (.int .i64 x1) ∧ w'.cell? ⟨wr.heap.size, 1, none⟩ = some (.slice a2 nx c2) ∧ w'.cell? ⟨wr.heap.size, 2, none⟩ = some (.string ⟨x2.toArray⟩) ∧ w'.cell? ⟨wr.heap.size, 3, none⟩ = some (.int .i64 x3))) (first | exact ks)
          (first
            | (go_at_call 65; refine (HC1.out _ (by exact HBD.out)).mono ?_; rintro e w7 ⟨rfl, hb7⟩
               have ks := And.intro (PD.out.below hb7 hltp).cells (XD.out.below hb7 hltx).cells
               have C7 := Lib.hid hb7
               have D7 := Lib.hid (bth HBD.out hb7 (Nat.le_refl _))
               clear hb7)
            | (go_at_call 66; refine (HC3.out _ (by exact D7.out)).mono ?_; rintro e w8 ⟨rfl, hb8⟩
               have C8 := Lib.hid (bth C7.out hb8 (Nat.le_refl _))
               have ks := And.intro (PD.out.below C8.out hltp).cells (XD.out.below C8.out hltx).cells
               have D8 := Lib.hid (bth D7.out hb8 (Nat.le_refl _))
               clear hb8))
            have HB8 := Lib.hid (bth (Below.drew HBX.out) C8.out (Nat.le_refl _))
            clear ks C7 C8 D7 D8 PD XD HBD
            go_wp2_with fail
            go_roundw
            case rel => exact ⟨k + 1, by omega, by go_num, HB8, HO2⟩
            case measure => simp [intOf]; omega
          · have hq : 0 ≤ q := by have := HQ.out; simpa using this
            have HE : Hid (R = false) := by rw [← HRR.out]; exact goodT_not hlt (by rw [HTP.out]; rfl)
            clear HQ HTP HO
            go_wp2_with fail
            rw [HWX.out]
            go_region_held3 (fun w' => (w'.cell? ⟨w.heap.size, 0, none⟩ = some (.slice an ls.length cn) ∧ w'.cell? ⟨w.heap.size, 1, none⟩ = some (.slice ao l.length co) ∧ w'.cell? ⟨w.heap.size, 2, none⟩ = some (.slice as0 bs.length cs) ∧ w'.cell? ⟨w.heap.size, 3, none⟩ = some (.slice ar rs.length cr)) ∧ (w'.cell? ⟨wr.heap.size, 0, none⟩ = some (.int .i64 x1) ∧ w'.cell? ⟨wr.heap.size, 1, none⟩ = some (.slice a2 nx c2) ∧ w'.cell? ⟨wr.heap.size, 2, none⟩ = some (.string ⟨x2.toArray⟩) ∧ w'.cell? ⟨wr.heap.size, 3, none⟩ = some (.int .i64 x3))) (first | exact ks)
          (first
            | (go_at_call 65; refine (HC1.out _ (by exact HBD.out)).mono ?_; rintro e w7 ⟨rfl, hb7⟩
               have ks := And.intro (PD.out.below hb7 hltp).cells (XD.out.below hb7 hltx).cells
               have C7 := Lib.hid hb7
               have D7 := Lib.hid (bth HBD.out hb7 (Nat.le_refl _))
               clear hb7)
            | (go_at_call 66; refine (HC3.out _ (by exact D7.out)).mono ?_; rintro e w8 ⟨rfl, hb8⟩
               have C8 := Lib.hid (bth C7.out hb8 (Nat.le_refl _))
               have ks := And.intro (PD.out.below C8.out hltp).cells (XD.out.below C8.out hltx).cells
               have D8 := Lib.hid (bth D7.out hb8 (Nat.le_refl _))
               clear hb8))
            have HB8 := Lib.hid D8.out
            clear ks C7 C8 D7 D8 PD XD HBD
            go_wp2_with fail
            go_ret
            exact ⟨by rw [HE.out] <;> rfl, HB8.out⟩
      · have hltz : ¬ ((k : Int) < (T.length : Int)) := by omega
        have HE : Hid (R = true) := by rw [← HRR.out]; exact goodT_of HPL.out H40.out (fun j hj => HO.out j (by omega))
        clear HAT HXT HO HTR
        go_wp2_with fail
        go_ret
        exact ⟨by rw [HE.out] <;> rfl, HBW.out⟩
  · have hd : decide ((T.length : Int) > 40) = true := by simp; omega
    have HE : Hid (R = false) := by rw [← HRR.out]; exact goodT_many h40
    clear HAT HXT HTR h40
    go_enter Tryz.func16, Tryz.ntmps16
    go_wp2_with fail
    rw [HWA.out]
    refine HC.out.mono ?_
    rintro e w1 ⟨rfl, hb1⟩
    have HB1 := Lib.hid (bth HA.out hb1 (Nat.le_refl _))
    clear hb1 c0 c1 c2' c3
    go_wp2_with fail
    go_ret
    exact ⟨by rw [HE.out] <;> rfl, HB1.out⟩
theorem implGood9_b {ls : List (List Int)} {l : List Int} {bs : List Bool} {rs : List (List OpT)} {T : List TrT} {b : Bool} (h : goodT ls l bs rs T = b) (v x : Value) (w : World) (hp : PlanV w v ls l bs rs) (hT : RowT w x T) (hx : ∀ l ∈ rs, ∀ f ∈ l, f.2.2.length ≤ maxLen) (hxT : ∀ t ∈ T, HeldT maxLen t) :
    Calls Tryz.prog 16 #[v, x] w (BoolPost b w) := by
  subst h
  exact implGood9_any ls l bs rs T v x w hp hT hx hxT

end Go.Proofs.YtngldlconipnnaaGreatDoor
