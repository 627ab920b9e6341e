/- Texts of one claim, joined in their order. -/
import Derived.Test.YtngldlconipnnaaM8
import Derived.Test.YtngldlconipnnaaM6

/- Walks: whether traces are good, of both. -/
namespace Go.Proofs.Ytngldlconipnnaa
open Go.RowKit Pth

theorem goodT_noP {ls : List (List Int)} {l : List Int} {bs : List Bool} {rs : List (List OpT)} {T : List TrT} (h : planA ls l bs rs = false) : goodT ls l bs rs T = false := by unfold goodT; rw [h]; rfl
theorem goodT_many {ls : List (List Int)} {l : List Int} {bs : List Bool} {rs : List (List OpT)} {T : List TrT} (h : ¬ T.length ≤ 40) : goodT ls l bs rs T = false := by unfold goodT; rw [decide_eq_false h]; simp
theorem trP_next {ls : List (List Int)} {bs : List Bool} {T : List TrT} {k : Nat} (h : ∀ j, j < k → trP ls bs T j = true) (hk : trP ls bs T k = true) : ∀ j, j < k + 1 → trP ls bs T j = true := fun j hj => by
  rcases Nat.lt_or_ge j k with h1 | h1
  · exact h j h1
  · rw [show j = k by omega]; exact hk
theorem trP_take {ls : List (List Int)} {bs : List Bool} {T : List TrT} {k : Nat} (h : ∀ j, j < k → trP ls bs T j = true) (hk : k ≤ T.length) : ∀ t ∈ T.take k, traceA ls bs t = true := fun t ht => by
  obtain ⟨j, hj, rfl⟩ := List.getElem_of_mem ht
  rw [List.length_take] at hj
  have := h j (by omega)
  rw [trP_at (by omega), Bool.and_eq_true] at this
  rw [List.getElem_take]; exact this.1

set_option maxRecDepth 20000 in
set_option maxHeartbeats 8000000 in
theorem specGood9_any (ls : List (List Int)) (l : List Int) (bs : List Bool) (rs : List (List OpT)) (T : List TrT) (v x : Value) (w : World) (hp : PlanV w v ls l bs rs) (hT : RowT w x T) (hx : ∀ l ∈ rs, ∀ f ∈ l, f.2.2.length ≤ maxLen) (hxT : ∀ t ∈ T, HeldT maxLen t) :
    Calls Try.prog 21 #[v, x] w (BoolPost (goodT ls l bs rs T) w) := by
  have HV := Lib.hid hp
  obtain ⟨nv, ov, sv, rv, rfl, h1, h2, h3, h4⟩ := hp
  obtain ⟨as0, cs, rfl, hs1, hs2, hats⟩ := h3.boolsW
  obtain ⟨an, cn, rfl, hn1, hn2, hatn⟩ := h1.lists
  obtain ⟨ao, co, rfl, ho1, ho2, hato⟩ := h2.ints
  obtain ⟨ar, cr, rfl, hr1, hr2, hatr⟩ := h4.lists
  clear h1 h2 h3 h4
  unfold maxLen at hs2 hn2 ho2 hr2
  obtain ⟨wa, hwa⟩ : ∃ wa, wa = w.alloc (.cells #[.slice an ls.length cn, .slice ao l.length co, .slice as0 bs.length cs, .slice ar rs.length cr] 30) := ⟨_, rfl⟩
  have hsz : w.heap.size < wa.heap.size := by rw [hwa]; simp
  have P0 : Hid (Blk4 wa w.heap.size 30 (.slice an ls.length cn) (.slice ao l.length co) (.slice as0 bs.length cs) (.slice ar rs.length cr)) := by rw [hwa]; exact Blk4.new
  have HA : Hid (Below w.heap.size w wa) := by rw [hwa]; exact (Below.refl w.heap.size w).alloc (Nat.le_refl _) _
  have HWA : Hid (w.alloc (.cells #[.slice an ls.length cn, .slice ao l.length co, .slice as0 bs.length cs, .slice ar rs.length cr] 30) = wa) := by rw [hwa]; rfl
  have HVW : Hid (∀ W, Below wa.heap.size wa W → PlanV W (.agg #[.slice an ls.length cn, .slice ao l.length co, .slice as0 bs.length cs, .slice ar rs.length cr]) ls l bs rs) := fun W h => HV.out.below (bth HA.out h (Nat.le_refl _))
  clear hwa
  have HTR := Lib.hid hT
  obtain ⟨a, cap, rfl, hc1, hc2, hat⟩ := hT.traces
  unfold maxLen at hc2
  have HAT := Lib.hid hat
  have HXT := Lib.hid hxT
  obtain ⟨R, hR⟩ : ∃ R, goodT ls l bs rs T = R := ⟨_, rfl⟩
  have HRR := Lib.hid hR
  rw [hR]
  obtain ⟨b, hb⟩ : ∃ b, planA ls l bs rs = b := ⟨_, rfl⟩
  have HC := Lib.hid (specPlan_b hb _ wa (HVW.out wa (Below.refl _ _)) hx)
  have HPL := Lib.hid hb
  obtain ⟨c0, c1, c2', c3⟩ := P0.out.cells
  clear hT hat hxT hR hb hx hats hatn hato hatr
  rcases b with _ | _
  · have HE : Hid (R = false) := by rw [← HRR.out]; exact goodT_noP HPL.out
    go_enter Try.func21, Try.ntmps21
    go_wp2_with fail
    rw [HWA.out]
    refine HC.out.mono ?_
    rintro e w1 ⟨rfl, hb1⟩
    have HB1 := Lib.hid (bth HA.out hb1 (Nat.le_refl _))
    clear hb1 c0 c1 c2' c3
    go_wp2_with fail
    go_ret
    exact ⟨by rw [HE.out] <;> rfl, HB1.out⟩
  by_cases h40 : T.length ≤ 40
  · have hd : decide ((T.length : Int) > 40) = false := by simp; omega
    have H40 := Lib.hid h40
    go_enter Try.func21, Try.ntmps21
    go_wp2_with fail
    rw [HWA.out]
    refine HC.out.mono ?_
    rintro e w1 ⟨rfl, hb1⟩
    have HB1 := Lib.hid hb1
    clear hb1 c0 c1 c2' c3 HC
    go_wp2_with fail
    go_loopw [17] (fun i wr => ∃ k : Nat, k ≤ T.length ∧ i = .int .i64 k ∧ Hid (Below wa.heap.size wa wr) ∧ Hid (∀ j, j < k → trP ls bs T j = true)) (fun i _ => T.length - (intOf i).toNat)
    case atStart => exact ⟨0, Nat.zero_le _, rfl, HB1, fun j hj => by omega⟩
    case round =>
      clear HB1
      obtain ⟨k, hk, rfl, HB, HO⟩ := hrel
      have HBW := Lib.hid (bth HA.out HB.out (Nat.le_refl _))
      by_cases hlt : k < T.length
      · obtain ⟨g, o, a2, c2, rfl, hg, ⟨k0, k1, k2, k3⟩, hrk⟩ := HAT.out k hlt
        have s0 := (HBW.out.cell (p := ⟨g, o + k * 4, none⟩) hg).trans k0
        have s1 := (HBW.out.cell (p := ⟨g, o + k * 4 + 1, none⟩) hg).trans k1
        have s2 := (HBW.out.cell (p := ⟨g, o + k * 4 + 2, none⟩) hg).trans k2
        have s3 := (HBW.out.cell (p := ⟨g, o + k * 4 + 3, none⟩) hg).trans k3
        have hltz : (k : Int) < (T.length : Int) := by omega
        have hkc : (k : Int) ≤ (cap : Int) := by omega
        have HTP : Hid (trP ls bs T k = (traceA ls bs T[k] && (findT (T.take k) T[k].1 T[k].2.1).isNone)) := trP_at hlt
        have HQ : Hid (decide (0 ≤ findK (T.take k) T[k].1 T[k].2.1) = (findT (T.take k) T[k].1 T[k].2.1).isSome) := isSome_findK _ _ _
        obtain ⟨bt, hbt⟩ : ∃ bt, traceA ls bs T[k] = bt := ⟨_, rfl⟩
        have HC1 := Lib.hid (fun W (h : Below w.heap.size w W) => specTrace9_b ls l bs rs T[k] hbt _ (trV (.slice a2 T[k].2.1.length c2) T[k]) W (HV.out.below h) ⟨a2, c2, rfl, hrk.below h⟩ HPL.out (HXT.out _ (List.getElem_mem hlt)))
        have HC2 : Hid (bt = true → ∀ W, Below w.heap.size w W → Calls Try.prog 65 #[.slice (some ⟨g, o, none⟩) k cap, .int .i64 T[k].1, .slice a2 T[k].2.1.length c2] W fun e w' => e = .returned (.int .i64 (findK (T.take k) T[k].1 T[k].2.1)) ∧ Below W.heap.size W w') := fun ht W h => by
          exact specFind_any (T.take k) T[k].1 T[k].2.1 _ _ W ((HTR.out.below h).front rfl k (by omega)) (hrk.below h)
        rw [hbt] at HTP
        have hsr := Nat.lt_of_lt_of_le hsz HB.out.size
        clear k0 k1 k2 k3 hrk hbt HAT HXT HTR
        generalize findT (T.take k) T[k].1 T[k].2.1 = fo at *
        generalize findK (T.take k) T[k].1 T[k].2.1 = q at *
        generalize T[k] = z at *
        obtain ⟨x1, xi, x2, x3⟩ := z
        unfold trV at HC1
        simp only at s0 s1 s2 s3 HC1 HC2
        generalize xi.length = nx at *
        obtain ⟨wx, hwx⟩ : ∃ wx, wx = wr.alloc (.cells #[.int .i64 x1, .slice a2 nx c2, .string ⟨x2.toArray⟩, .int .i64 x3] 36) := ⟨_, rfl⟩
        have hxb : Below wr.heap.size wr wx := by rw [hwx]; exact (Below.refl wr.heap.size wr).alloc (Nat.le_refl _) _
        have hltx : wr.heap.size < wx.drew.heap.size := by show _ < wx.heap.size; rw [hwx]; simp
        have hltp : w.heap.size < wx.drew.heap.size := by omega
        have XD : Hid (Blk4 wx.drew wr.heap.size 36 (.int .i64 x1) (.slice a2 nx c2) (.string ⟨x2.toArray⟩) (.int .i64 x3)) := by show Blk4 wx _ _ _ _ _ _; rw [hwx]; exact Blk4.new
        have HBX := Lib.hid (bth HB.out hxb (Nat.le_refl _))
        have PD : Hid (Blk4 wx.drew w.heap.size 30 (.slice an ls.length cn) (.slice ao l.length co) (.slice as0 bs.length cs) (.slice ar rs.length cr)) := P0.out.below (Below.drew HBX.out) hsz
        have HBD := Lib.hid (bth HA.out (Below.drew HBX.out) (Nat.le_refl _))
        have HWX : Hid (wr.alloc (.cells #[.int .i64 x1, .slice a2 nx c2, .string ⟨x2.toArray⟩, .int .i64 x3] 36) = wx) := by rw [hwx]; rfl
        have ks := And.intro PD.out.cells XD.out.cells
        clear hwx hxb
        rcases bt with _ | _
        · have HE : Hid (R = false) := by rw [← HRR.out]; exact goodT_not hlt (by rw [HTP.out]; rfl)
          clear HC2 HQ HTP
          go_wp2_with fail
          rw [HWX.out]
          refine wp_region_held_drew (S := fun w' => (w'.cell? ⟨w.heap.size, 0, none⟩ = some (.slice an ls.length cn) ∧ w'.cell? ⟨w.heap.size, 1, none⟩ = some (.slice ao l.length co) ∧ w'.cell? ⟨w.heap.size, 2, none⟩ = some (.slice as0 bs.length cs) ∧ w'.cell? ⟨w.heap.size, 3, none⟩ = some (.slice ar rs.length cr)) ∧ (w'.cell? ⟨wr.heap.size, 0, none⟩ = some (.int .i64 x1) ∧ w'.cell? ⟨wr.heap.size, 1, none⟩ = some (.slice a2 nx c2) ∧ w'.cell? ⟨wr.heap.size, 2, none⟩ = some (.string ⟨x2.toArray⟩) ∧ w'.cell? ⟨wr.heap.size, 3, none⟩ = some (.int .i64 x3))) (by kernel_rfl) ks (fun hS0 => ?_)
          change wpAnyH _ _ _ _ _ 15 #[false, false, false, false, false, false, false, false, false, false, false, false, false, false, false] _ _
          refine wpAnyH_take (i := 0) (v := ?v0) rfl (by kernel_rfl) (by kernel_rfl) (by kernel_rfl) (fun _ _ _ h => h) (Or.inl ⟨rfl, ?y0⟩) (by assumption) ?r0
          case y0 => (intro w' hSw; (try dsimp only at hSw); go_simp; (try with_reducible rfl))
          try simp only [List.getElem_toArray, List.getElem_cons_zero, Act.put, List.setIfInBounds_toArray, List.set_cons_zero, List.set_cons_succ]
          refine wpAnyH_take (i := 1) (v := ?v1) rfl (by kernel_rfl) (by kernel_rfl) (by kernel_rfl) (fun _ _ _ h => h) (Or.inl ⟨rfl, ?y1⟩) (by assumption) ?r1
          case y1 => (intro w' hSw; (try dsimp only at hSw); go_simp; (try with_reducible rfl))
          try simp only [List.getElem_toArray, List.getElem_cons_succ, List.getElem_cons_zero, Act.put, List.setIfInBounds_toArray, List.set_cons_zero, List.set_cons_succ]
          refine wpAnyH_ready (rs := [2]) (by kernel_rfl) (by simp) ?_
          refine AllReadyH.cons rfl (fun K' hK => ?_) AllReadyH.nil
          go_simp
          go_wp2_with (go_at_call 51; refine (HC1.out _ (by exact HBD.out)).mono ?_; rintro e w7 ⟨rfl, hb7⟩
                       have k7 := And.intro (PD.out.below hb7 hltp).cells (XD.out.below hb7 hltx).cells
                       have D7 := Lib.hid (bth HBD.out hb7 (Nat.le_refl _))
                       clear hb7)
          refine hK.out _ _ k7 (fun hS1 => ?_)
          clear hK
          try simp only [List.setIfInBounds_toArray, List.set_cons_zero, List.set_cons_succ]
          refine wpAnyH_take (i := 3) (v := ?v3) rfl (by kernel_rfl) (by kernel_rfl) (by kernel_rfl) (fun _ _ _ h => h) (Or.inl ⟨rfl, ?y3⟩) (by assumption) ?r3
          case y3 => (intro w' hSw; (try dsimp only at hSw); go_simp; (try with_reducible rfl))
          try simp only [List.getElem_toArray, List.getElem_cons_succ, List.getElem_cons_zero, Act.put, List.setIfInBounds_toArray, List.set_cons_zero, List.set_cons_succ]
          refine wpAnyH_take (i := 4) (v := ?v4) rfl (by kernel_rfl) (by kernel_rfl) (by kernel_rfl) (fun _ _ _ h => h) (Or.inl ⟨rfl, ?y4⟩) (by assumption) ?r4
          case y4 => (intro w' hSw; (try dsimp only at hSw); go_simp; (try with_reducible rfl))
          try simp only [List.getElem_toArray, List.getElem_cons_succ, List.getElem_cons_zero, Act.put, List.setIfInBounds_toArray, List.set_cons_zero, List.set_cons_succ]
          refine wpAnyH_take (i := 5) (v := undef) rfl (by kernel_rfl) (by kernel_rfl) (by kernel_rfl) (fun _ _ _ h => h) (Or.inr ⟨rfl, rfl⟩) (by assumption) ?r5
          try simp only [List.getElem_toArray, List.getElem_cons_succ, List.getElem_cons_zero, Act.put, List.setIfInBounds_toArray, List.set_cons_zero, List.set_cons_succ]
          refine wpAnyH_take (i := 6) (v := undef) rfl (by kernel_rfl) (by kernel_rfl) (by kernel_rfl) (fun _ _ _ h => h) (Or.inr ⟨rfl, rfl⟩) (by assumption) ?r6
          try simp only [List.getElem_toArray, List.getElem_cons_succ, List.getElem_cons_zero, Act.put, List.setIfInBounds_toArray, List.set_cons_zero, List.set_cons_succ]
          refine wpAnyH_take (i := 7) (v := undef) rfl (by kernel_rfl) (by kernel_rfl) (by kernel_rfl) (fun _ _ _ h => h) (Or.inr ⟨rfl, rfl⟩) (by assumption) ?r7
          try simp only [List.getElem_toArray, List.getElem_cons_succ, List.getElem_cons_zero, Act.put, List.setIfInBounds_toArray, List.set_cons_zero, List.set_cons_succ]
          refine wpAnyH_take (i := 8) (v := undef) rfl (by kernel_rfl) (by kernel_rfl) (by kernel_rfl) (fun _ _ _ h => h) (Or.inr ⟨rfl, rfl⟩) (by assumption) ?r8
          try simp only [List.getElem_toArray, List.getElem_cons_succ, List.getElem_cons_zero, Act.put, List.setIfInBounds_toArray, List.set_cons_zero, List.set_cons_succ]
          refine wpAnyH_take (i := 9) (v := undef) rfl (by kernel_rfl) (by kernel_rfl) (by kernel_rfl) (fun _ _ _ h => h) (Or.inr ⟨rfl, rfl⟩) (by assumption) ?r9
          try simp only [List.getElem_toArray, List.getElem_cons_succ, List.getElem_cons_zero, Act.put, List.setIfInBounds_toArray, List.set_cons_zero, List.set_cons_succ]
          refine wpAnyH_take (i := 10) (v := undef) rfl (by kernel_rfl) (by kernel_rfl) (by kernel_rfl) (fun _ _ _ h => h) (Or.inr ⟨rfl, rfl⟩) (by assumption) ?r10
          try simp only [List.getElem_toArray, List.getElem_cons_succ, List.getElem_cons_zero, Act.put, List.setIfInBounds_toArray, List.set_cons_zero, List.set_cons_succ]
          refine wpAnyH_take (i := 11) (v := undef) rfl (by kernel_rfl) (by kernel_rfl) (by kernel_rfl) (fun _ _ _ h => h) (Or.inr ⟨rfl, rfl⟩) (by assumption) ?r11
          try simp only [List.getElem_toArray, List.getElem_cons_succ, List.getElem_cons_zero, Act.put, List.setIfInBounds_toArray, List.set_cons_zero, List.set_cons_succ]
          refine wpAnyH_take (i := 12) (v := undef) rfl (by kernel_rfl) (by kernel_rfl) (by kernel_rfl) (fun _ _ _ h => h) (Or.inr ⟨rfl, rfl⟩) (by assumption) ?r12
          try simp only [List.getElem_toArray, List.getElem_cons_succ, List.getElem_cons_zero, Act.put, List.setIfInBounds_toArray, List.set_cons_zero, List.set_cons_succ]
          refine wpAnyH_take (i := 13) (v := undef) rfl (by kernel_rfl) (by kernel_rfl) (by kernel_rfl) (fun _ _ _ h => h) (Or.inr ⟨rfl, rfl⟩) (by assumption) ?r13
          try simp only [List.getElem_toArray, List.getElem_cons_succ, List.getElem_cons_zero, Act.put, List.setIfInBounds_toArray, List.set_cons_zero, List.set_cons_succ]
          refine wpAnyH_take (i := 14) (v := ?v14) rfl (by kernel_rfl) (by kernel_rfl) (by kernel_rfl) (fun _ _ _ h => h) (Or.inl ⟨rfl, ?y14⟩) (by assumption) ?r14
          case y14 => (intro w' hSw; (try dsimp only at hSw); go_simp; (try with_reducible rfl))
          try simp only [List.getElem_toArray, List.getElem_cons_succ, List.getElem_cons_zero, Act.put, List.setIfInBounds_toArray, List.set_cons_zero, List.set_cons_succ]
          refine wpAnyH_done (by kernel_rfl) ?_ _
          go_wp2_with fail
          go_ret
          exact ⟨by rw [HE.out] <;> rfl, D7.out⟩
        · have HC3 := Lib.hid (HC2.out rfl)
          clear HC2
          rcases fo with _ | fo
          · have hq : ¬ (0 ≤ q) := by have := HQ.out; simpa using this
            have HO2 := Lib.hid (trP_next HO.out (by rw [HTP.out]; rfl))
            clear HQ HTP HO
            go_wp2_with fail
            rw [HWX.out]
            go_region_held3 (fun w' => (w'.cell? ⟨w.heap.size, 0, none⟩ = some (.slice an ls.length cn) ∧ w'.cell? ⟨w.heap.size, 1, none⟩ = some (.slice ao l.length co) ∧ w'.cell? ⟨w.heap.size, 2, none⟩ = some (.slice as0 bs.length cs) ∧ w'.cell? ⟨w.heap.size, 3, none⟩ = some (.slice ar rs.length cr)) ∧ (w'.cell? ⟨wr.heap.size, 0, none⟩ = some (.int .i64 x1) ∧ w'.cell? ⟨wr.heap.size, 1, none⟩ = some (.slice a2 nx c2) ∧ w'.cell? ⟨wr.heap.size, 2, none⟩ = some (.string ⟨x2.toArray⟩) ∧ w'.cell? ⟨wr.heap.size, 3, none⟩ = some (.int .i64 x3))) (first | exact ks)
          (first
            | (go_at_call 51; refine (HC1.out _ (by exact HBD.out)).mono ?_; rintro e w7 ⟨rfl, hb7⟩
               have ks := And.intro (PD.out.below hb7 hltp).cells (XD.out.below hb7 hltx).cells
               have C7 := Lib.hid hb7
               have D7 := Lib.hid (bth HBD.out hb7 (Nat.le_refl _))
               clear hb7)
            | (go_at_call 65; refine (HC3.out _ (by exact D7.out)).mono ?_; rintro e w8 ⟨rfl, hb8⟩
               have C8 := Lib.hid (bth C7.out hb8 (Nat.le_refl _))
               have ks := And.intro (PD.out.below C8.out hltp).cells (XD.out.below C8.out hltx).cells
               have D8 := Lib.hid (bth D7.out hb8 (Nat.le_refl _))
               clear hb8))
            have HB8 := Lib.hid (bth (Below.drew HBX.out) C8.out (Nat.le_refl _))
            clear ks C7 C8 D7 D8 PD XD HBD
            go_wp2_with fail
            go_roundw
            case rel => exact ⟨k + 1, by omega, by go_num, HB8, HO2⟩
            case measure => simp [intOf]; omega
          · have hq : 0 ≤ q := by have := HQ.out; simpa using this
            have HE : Hid (R = false) := by rw [← HRR.out]; exact goodT_not hlt (by rw [HTP.out]; rfl)
            clear HQ HTP HO
            go_wp2_with fail
            rw [HWX.out]
            go_region_held3 (fun w' => (w'.cell? ⟨w.heap.size, 0, none⟩ = some (.slice an ls.length cn) ∧ w'.cell? ⟨w.heap.size, 1, none⟩ = some (.slice ao l.length co) ∧ w'.cell? ⟨w.heap.size, 2, none⟩ = some (.slice as0 bs.length cs) ∧ w'.cell? ⟨w.heap.size, 3, none⟩ = some (.slice ar rs.length cr)) ∧ (w'.cell? ⟨wr.heap.size, 0, none⟩ = some (.int .i64 x1) ∧ w'.cell? ⟨wr.heap.size, 1, none⟩ = some (.slice a2 nx c2) ∧ w'.cell? ⟨wr.heap.size, 2, none⟩ = some (.string ⟨x2.toArray⟩) ∧ w'.cell? ⟨wr.heap.size, 3, none⟩ = some (.int .i64 x3))) (first | exact ks)
          (first
            | (go_at_call 51; refine (HC1.out _ (by exact HBD.out)).mono ?_; rintro e w7 ⟨rfl, hb7⟩
               have ks := And.intro (PD.out.below hb7 hltp).cells (XD.out.below hb7 hltx).cells
               have C7 := Lib.hid hb7
               have D7 := Lib.hid (bth HBD.out hb7 (Nat.le_refl _))
               clear hb7)
            | (go_at_call 65; refine (HC3.out _ (by exact D7.out)).mono ?_; rintro e w8 ⟨rfl, hb8⟩
               have C8 := Lib.hid (bth C7.out hb8 (Nat.le_refl _))
               have ks := And.intro (PD.out.below C8.out hltp).cells (XD.out.below C8.out hltx).cells
               have D8 := Lib.hid (bth D7.out hb8 (Nat.le_refl _))
               clear hb8))
            have HB8 := Lib.hid D8.out
            clear ks C7 C8 D7 D8 PD XD HBD
            go_wp2_with fail
            go_ret
            exact ⟨by rw [HE.out] <;> rfl, HB8.out⟩
      · have hltz : ¬ ((k : Int) < (T.length : Int)) := by omega
        have HE : Hid (R = true) := by rw [← HRR.out]; exact goodT_of HPL.out H40.out (fun j hj => HO.out j (by omega))
        clear HAT HXT HO HTR
        go_wp2_with fail
        go_ret
        exact ⟨by rw [HE.out] <;> rfl, HBW.out⟩
  · have hd : decide ((T.length : Int) > 40) = true := by simp; omega
    have HE : Hid (R = false) := by rw [← HRR.out]; exact goodT_many h40
    clear HAT HXT HTR h40
    go_enter Try.func21, Try.ntmps21
    go_wp2_with fail
    rw [HWA.out]
    refine HC.out.mono ?_
    rintro e w1 ⟨rfl, hb1⟩
    have HB1 := Lib.hid (bth HA.out hb1 (Nat.le_refl _))
    clear hb1 c0 c1 c2' c3
    go_wp2_with fail
    go_ret
    exact ⟨by rw [HE.out] <;> rfl, HB1.out⟩
theorem specGood9_b {ls : List (List Int)} {l : List Int} {bs : List Bool} {rs : List (List OpT)} {T : List TrT} {b : Bool} (h : goodT ls l bs rs T = b) (v x : Value) (w : World) (hp : PlanV w v ls l bs rs) (hT : RowT w x T) (hx : ∀ l ∈ rs, ∀ f ∈ l, f.2.2.length ≤ maxLen) (hxT : ∀ t ∈ T, HeldT maxLen t) :
    Calls Try.prog 21 #[v, x] w (BoolPost b w) := by
  subst h
  exact specGood9_any ls l bs rs T v x w hp hT hx hxT

set_option maxRecDepth 20000 in
set_option maxHeartbeats 8000000 in
theorem implGood9_any (ls : List (List Int)) (l : List Int) (bs : List Bool) (rs : List (List OpT)) (T : List TrT) (v x : Value) (w : World) (hp : PlanV w v ls l bs rs) (hT : RowT w x T) (hx : ∀ l ∈ rs, ∀ f ∈ l, f.2.2.length ≤ maxLen) (hxT : ∀ t ∈ T, HeldT maxLen t) :
    Calls Try.prog 13 #[v, x] w (BoolPost (goodT ls l bs rs T) w) := by
  have HV := Lib.hid hp
  obtain ⟨nv, ov, sv, rv, rfl, h1, h2, h3, h4⟩ := hp
  obtain ⟨as0, cs, rfl, hs1, hs2, hats⟩ := h3.boolsW
  obtain ⟨an, cn, rfl, hn1, hn2, hatn⟩ := h1.lists
  obtain ⟨ao, co, rfl, ho1, ho2, hato⟩ := h2.ints
  obtain ⟨ar, cr, rfl, hr1, hr2, hatr⟩ := h4.lists
  clear h1 h2 h3 h4
  unfold maxLen at hs2 hn2 ho2 hr2
  obtain ⟨wa, hwa⟩ : ∃ wa, wa = w.alloc (.cells #[.slice an ls.length cn, .slice ao l.length co, .slice as0 bs.length cs, .slice ar rs.length cr] 30) := ⟨_, rfl⟩
  have hsz : w.heap.size < wa.heap.size := by rw [hwa]; simp
  have P0 : Hid (Blk4 wa w.heap.size 30 (.slice an ls.length cn) (.slice ao l.length co) (.slice as0 bs.length cs) (.slice ar rs.length cr)) := by rw [hwa]; exact Blk4.new
  have HA : Hid (Below w.heap.size w wa) := by rw [hwa]; exact (Below.refl w.heap.size w).alloc (Nat.le_refl _) _
  have HWA : Hid (w.alloc (.cells #[.slice an ls.length cn, .slice ao l.length co, .slice as0 bs.length cs, .slice ar rs.length cr] 30) = wa) := by rw [hwa]; rfl
  have HVW : Hid (∀ W, Below wa.heap.size wa W → PlanV W (.agg #[.slice an ls.length cn, .slice ao l.length co, .slice as0 bs.length cs, .slice ar rs.length cr]) ls l bs rs) := fun W h => HV.out.below (bth HA.out h (Nat.le_refl _))
  clear hwa
  have HTR := Lib.hid hT
  obtain ⟨a, cap, rfl, hc1, hc2, hat⟩ := hT.traces
  unfold maxLen at hc2
  have HAT := Lib.hid hat
  have HXT := Lib.hid hxT
  obtain ⟨R, hR⟩ : ∃ R, goodT ls l bs rs T = R := ⟨_, rfl⟩
  have HRR := Lib.hid hR
  rw [hR]
  obtain ⟨b, hb⟩ : ∃ b, planA ls l bs rs = b := ⟨_, rfl⟩
  have HC := Lib.hid (implPlan_b hb _ wa (HVW.out wa (Below.refl _ _)) hx)
  have HPL := Lib.hid hb
  obtain ⟨c0, c1, c2', c3⟩ := P0.out.cells
  clear hT hat hxT hR hb hx hats hatn hato hatr
  rcases b with _ | _
  · have HE : Hid (R = false) := by rw [← HRR.out]; exact goodT_noP HPL.out
    go_enter Try.func13, Try.ntmps13
    go_wp2_with fail
    rw [HWA.out]
    refine HC.out.mono ?_
    rintro e w1 ⟨rfl, hb1⟩
    have HB1 := Lib.hid (bth HA.out hb1 (Nat.le_refl _))
    clear hb1 c0 c1 c2' c3
    go_wp2_with fail
    go_ret
    exact ⟨by rw [HE.out] <;> rfl, HB1.out⟩
  by_cases h40 : T.length ≤ 40
  · have hd : decide ((T.length : Int) > 40) = false := by simp; omega
    have H40 := Lib.hid h40
    go_enter Try.func13, Try.ntmps13
    go_wp2_with fail
    rw [HWA.out]
    refine HC.out.mono ?_
    rintro e w1 ⟨rfl, hb1⟩
    have HB1 := Lib.hid hb1
    clear hb1 c0 c1 c2' c3 HC
    go_wp2_with fail
    go_loopw [17] (fun i wr => ∃ k : Nat, k ≤ T.length ∧ i = .int .i64 k ∧ Hid (Below wa.heap.size wa wr) ∧ Hid (∀ j, j < k → trP ls bs T j = true)) (fun i _ => T.length - (intOf i).toNat)
    case atStart => exact ⟨0, Nat.zero_le _, rfl, HB1, fun j hj => by omega⟩
    case round =>
      clear HB1
      obtain ⟨k, hk, rfl, HB, HO⟩ := hrel
      have HBW := Lib.hid (bth HA.out HB.out (Nat.le_refl _))
      by_cases hlt : k < T.length
      · obtain ⟨g, o, a2, c2, rfl, hg, ⟨k0, k1, k2, k3⟩, hrk⟩ := HAT.out k hlt
        have s0 := (HBW.out.cell (p := ⟨g, o + k * 4, none⟩) hg).trans k0
        have s1 := (HBW.out.cell (p := ⟨g, o + k * 4 + 1, none⟩) hg).trans k1
        have s2 := (HBW.out.cell (p := ⟨g, o + k * 4 + 2, none⟩) hg).trans k2
        have s3 := (HBW.out.cell (p := ⟨g, o + k * 4 + 3, none⟩) hg).trans k3
        have hltz : (k : Int) < (T.length : Int) := by omega
        have hkc : (k : Int) ≤ (cap : Int) := by omega
        have HTP : Hid (trP ls bs T k = (traceA ls bs T[k] && (findT (T.take k) T[k].1 T[k].2.1).isNone)) := trP_at hlt
        have HQ : Hid (decide (0 ≤ findK (T.take k) T[k].1 T[k].2.1) = (findT (T.take k) T[k].1 T[k].2.1).isSome) := isSome_findK _ _ _
        obtain ⟨bt, hbt⟩ : ∃ bt, traceA ls bs T[k] = bt := ⟨_, rfl⟩
        have HC1 := Lib.hid (fun W (h : Below w.heap.size w W) => implTrace_b ls l bs rs T[k] hbt _ (trV (.slice a2 T[k].2.1.length c2) T[k]) W (HV.out.below h) ⟨a2, c2, rfl, hrk.below h⟩ HPL.out (HXT.out _ (List.getElem_mem hlt)))
        have HC2 : Hid (bt = true → ∀ W, Below w.heap.size w W → Calls Try.prog 58 #[.slice (some ⟨g, o, none⟩) k cap, .int .i64 T[k].1, .slice a2 T[k].2.1.length c2] W fun e w' => e = .returned (.int .i64 (findK (T.take k) T[k].1 T[k].2.1)) ∧ Below W.heap.size W w') := fun ht W h => by
          have hta := traceA_parts (hbt.trans ht)
          have hin := insOk_parts hta.1
          exact placeOf_any (T.take k) T[k].1 T[k].2.1 _ _ W ((HTR.out.below h).front rfl k (by omega)) (hrk.below h) (texts_parts hin.2.2.2.2).2 (same_of (trP_take HO.out (by omega)) hta.1)
        rw [hbt] at HTP
        have hsr := Nat.lt_of_lt_of_le hsz HB.out.size
        clear k0 k1 k2 k3 hrk hbt HAT HXT HTR
        generalize findT (T.take k) T[k].1 T[k].2.1 = fo at *
        generalize findK (T.take k) T[k].1 T[k].2.1 = q at *
        generalize T[k] = z at *
        obtain ⟨x1, xi, x2, x3⟩ := z
        unfold trV at HC1
        simp only at s0 s1 s2 s3 HC1 HC2
        generalize xi.length = nx at *
        obtain ⟨wx, hwx⟩ : ∃ wx, wx = wr.alloc (.cells #[.int .i64 x1, .slice a2 nx c2, .string ⟨x2.toArray⟩, .int .i64 x3] 36) := ⟨_, rfl⟩
        have hxb : Below wr.heap.size wr wx := by rw [hwx]; exact (Below.refl wr.heap.size wr).alloc (Nat.le_refl _) _
        have hltx : wr.heap.size < wx.drew.heap.size := by show _ < wx.heap.size; rw [hwx]; simp
        have hltp : w.heap.size < wx.drew.heap.size := by omega
        have XD : Hid (Blk4 wx.drew wr.heap.size 36 (.int .i64 x1) (.slice a2 nx c2) (.string ⟨x2.toArray⟩) (.int .i64 x3)) := by show Blk4 wx _ _ _ _ _ _; rw [hwx]; exact Blk4.new
        have HBX := Lib.hid (bth HB.out hxb (Nat.le_refl _))
        have PD : Hid (Blk4 wx.drew w.heap.size 30 (.slice an ls.length cn) (.slice ao l.length co) (.slice as0 bs.length cs) (.slice ar rs.length cr)) := P0.out.below (Below.drew HBX.out) hsz
        have HBD := Lib.hid (bth HA.out (Below.drew HBX.out) (Nat.le_refl _))
        have HWX : Hid (wr.alloc (.cells #[.int .i64 x1, .slice a2 nx c2, .string ⟨x2.toArray⟩, .int .i64 x3] 36) = wx) := by rw [hwx]; rfl
        have ks := And.intro PD.out.cells XD.out.cells
        clear hwx hxb
        rcases bt with _ | _
        · have HE : Hid (R = false) := by rw [← HRR.out]; exact goodT_not hlt (by rw [HTP.out]; rfl)
          clear HC2 HQ HTP
          go_wp2_with fail
          rw [HWX.out]
          refine wp_region_held_drew (S := fun w' => (w'.cell? ⟨w.heap.size, 0, none⟩ = some (.slice an ls.length cn) ∧ w'.cell? ⟨w.heap.size, 1, none⟩ = some (.slice ao l.length co) ∧ w'.cell? ⟨w.heap.size, 2, none⟩ = some (.slice as0 bs.length cs) ∧ w'.cell? ⟨w.heap.size, 3, none⟩ = some (.slice ar rs.length cr)) ∧ (w'.cell? ⟨wr.heap.size, 0, none⟩ = some (.int .i64 x1) ∧ w'.cell? ⟨wr.heap.size, 1, none⟩ = some (.slice a2 nx c2) ∧ w'.cell? ⟨wr.heap.size, 2, none⟩ = some (.string ⟨x2.toArray⟩) ∧ w'.cell? ⟨wr.heap.size, 3, none⟩ = some (.int .i64 x3))) (by kernel_rfl) ks (fun hS0 => ?_)
          change wpAnyH _ _ _ _ _ 15 #[false, false, false, false, false, false, false, false, false, false, false, false, false, false, false] _ _
          refine wpAnyH_take (i := 0) (v := ?v0) rfl (by kernel_rfl) (by kernel_rfl) (by kernel_rfl) (fun _ _ _ h => h) (Or.inl ⟨rfl, ?y0⟩) (by assumption) ?r0
          case y0 => (intro w' hSw; (try dsimp only at hSw); go_simp; (try with_reducible rfl))
          try simp only [List.getElem_toArray, List.getElem_cons_zero, Act.put, List.setIfInBounds_toArray, List.set_cons_zero, List.set_cons_succ]
          refine wpAnyH_take (i := 1) (v := ?v1) rfl (by kernel_rfl) (by kernel_rfl) (by kernel_rfl) (fun _ _ _ h => h) (Or.inl ⟨rfl, ?y1⟩) (by assumption) ?r1
          case y1 => (intro w' hSw; (try dsimp only at hSw); go_simp; (try with_reducible rfl))
          try simp only [List.getElem_toArray, List.getElem_cons_succ, List.getElem_cons_zero, Act.put, List.setIfInBounds_toArray, List.set_cons_zero, List.set_cons_succ]
          refine wpAnyH_ready (rs := [2]) (by kernel_rfl) (by simp) ?_
          refine AllReadyH.cons rfl (fun K' hK => ?_) AllReadyH.nil
          go_simp
          go_wp2_with (go_at_call 47; refine (HC1.out _ (by exact HBD.out)).mono ?_; rintro e w7 ⟨rfl, hb7⟩
                       have k7 := And.intro (PD.out.below hb7 hltp).cells (XD.out.below hb7 hltx).cells
                       have D7 := Lib.hid (bth HBD.out hb7 (Nat.le_refl _))
                       clear hb7)
          refine hK.out _ _ k7 (fun hS1 => ?_)
          clear hK
          try simp only [List.setIfInBounds_toArray, List.set_cons_zero, List.set_cons_succ]
          refine wpAnyH_take (i := 3) (v := ?v3) rfl (by kernel_rfl) (by kernel_rfl) (by kernel_rfl) (fun _ _ _ h => h) (Or.inl ⟨rfl, ?y3⟩) (by assumption) ?r3
          case y3 => (intro w' hSw; (try dsimp only at hSw); go_simp; (try with_reducible rfl))
          try simp only [List.getElem_toArray, List.getElem_cons_succ, List.getElem_cons_zero, Act.put, List.setIfInBounds_toArray, List.set_cons_zero, List.set_cons_succ]
          refine wpAnyH_take (i := 4) (v := ?v4) rfl (by kernel_rfl) (by kernel_rfl) (by kernel_rfl) (fun _ _ _ h => h) (Or.inl ⟨rfl, ?y4⟩) (by assumption) ?r4
          case y4 => (intro w' hSw; (try dsimp only at hSw); go_simp; (try with_reducible rfl))
          try simp only [List.getElem_toArray, List.getElem_cons_succ, List.getElem_cons_zero, Act.put, List.setIfInBounds_toArray, List.set_cons_zero, List.set_cons_succ]
          refine wpAnyH_take (i := 5) (v := undef) rfl (by kernel_rfl) (by kernel_rfl) (by kernel_rfl) (fun _ _ _ h => h) (Or.inr ⟨rfl, rfl⟩) (by assumption) ?r5
          try simp only [List.getElem_toArray, List.getElem_cons_succ, List.getElem_cons_zero, Act.put, List.setIfInBounds_toArray, List.set_cons_zero, List.set_cons_succ]
          refine wpAnyH_take (i := 6) (v := undef) rfl (by kernel_rfl) (by kernel_rfl) (by kernel_rfl) (fun _ _ _ h => h) (Or.inr ⟨rfl, rfl⟩) (by assumption) ?r6
          try simp only [List.getElem_toArray, List.getElem_cons_succ, List.getElem_cons_zero, Act.put, List.setIfInBounds_toArray, List.set_cons_zero, List.set_cons_succ]
          refine wpAnyH_take (i := 7) (v := undef) rfl (by kernel_rfl) (by kernel_rfl) (by kernel_rfl) (fun _ _ _ h => h) (Or.inr ⟨rfl, rfl⟩) (by assumption) ?r7
          try simp only [List.getElem_toArray, List.getElem_cons_succ, List.getElem_cons_zero, Act.put, List.setIfInBounds_toArray, List.set_cons_zero, List.set_cons_succ]
          refine wpAnyH_take (i := 8) (v := undef) rfl (by kernel_rfl) (by kernel_rfl) (by kernel_rfl) (fun _ _ _ h => h) (Or.inr ⟨rfl, rfl⟩) (by assumption) ?r8
          try simp only [List.getElem_toArray, List.getElem_cons_succ, List.getElem_cons_zero, Act.put, List.setIfInBounds_toArray, List.set_cons_zero, List.set_cons_succ]
          refine wpAnyH_take (i := 9) (v := undef) rfl (by kernel_rfl) (by kernel_rfl) (by kernel_rfl) (fun _ _ _ h => h) (Or.inr ⟨rfl, rfl⟩) (by assumption) ?r9
          try simp only [List.getElem_toArray, List.getElem_cons_succ, List.getElem_cons_zero, Act.put, List.setIfInBounds_toArray, List.set_cons_zero, List.set_cons_succ]
          refine wpAnyH_take (i := 10) (v := undef) rfl (by kernel_rfl) (by kernel_rfl) (by kernel_rfl) (fun _ _ _ h => h) (Or.inr ⟨rfl, rfl⟩) (by assumption) ?r10
          try simp only [List.getElem_toArray, List.getElem_cons_succ, List.getElem_cons_zero, Act.put, List.setIfInBounds_toArray, List.set_cons_zero, List.set_cons_succ]
          refine wpAnyH_take (i := 11) (v := undef) rfl (by kernel_rfl) (by kernel_rfl) (by kernel_rfl) (fun _ _ _ h => h) (Or.inr ⟨rfl, rfl⟩) (by assumption) ?r11
          try simp only [List.getElem_toArray, List.getElem_cons_succ, List.getElem_cons_zero, Act.put, List.setIfInBounds_toArray, List.set_cons_zero, List.set_cons_succ]
          refine wpAnyH_take (i := 12) (v := undef) rfl (by kernel_rfl) (by kernel_rfl) (by kernel_rfl) (fun _ _ _ h => h) (Or.inr ⟨rfl, rfl⟩) (by assumption) ?r12
          try simp only [List.getElem_toArray, List.getElem_cons_succ, List.getElem_cons_zero, Act.put, List.setIfInBounds_toArray, List.set_cons_zero, List.set_cons_succ]
          refine wpAnyH_take (i := 13) (v := undef) rfl (by kernel_rfl) (by kernel_rfl) (by kernel_rfl) (fun _ _ _ h => h) (Or.inr ⟨rfl, rfl⟩) (by assumption) ?r13
          try simp only [List.getElem_toArray, List.getElem_cons_succ, List.getElem_cons_zero, Act.put, List.setIfInBounds_toArray, List.set_cons_zero, List.set_cons_succ]
          refine wpAnyH_take (i := 14) (v := ?v14) rfl (by kernel_rfl) (by kernel_rfl) (by kernel_rfl) (fun _ _ _ h => h) (Or.inl ⟨rfl, ?y14⟩) (by assumption) ?r14
          case y14 => (intro w' hSw; (try dsimp only at hSw); go_simp; (try with_reducible rfl))
          try simp only [List.getElem_toArray, List.getElem_cons_succ, List.getElem_cons_zero, Act.put, List.setIfInBounds_toArray, List.set_cons_zero, List.set_cons_succ]
          refine wpAnyH_done (by kernel_rfl) ?_ _
          go_wp2_with fail
          go_ret
          exact ⟨by rw [HE.out] <;> rfl, D7.out⟩
        · have HC3 := Lib.hid (HC2.out rfl)
          clear HC2
          rcases fo with _ | fo
          · have hq : ¬ (0 ≤ q) := by have := HQ.out; simpa using this
            have HO2 := Lib.hid (trP_next HO.out (by rw [HTP.out]; rfl))
            clear HQ HTP HO
            go_wp2_with fail
            rw [HWX.out]
            go_region_held3 (fun w' => (w'.cell? ⟨w.heap.size, 0, none⟩ = some (.slice an ls.length cn) ∧ w'.cell? ⟨w.heap.size, 1, none⟩ = some (.slice ao l.length co) ∧ w'.cell? ⟨w.heap.size, 2, none⟩ = some (.slice as0 bs.length cs) ∧ w'.cell? ⟨w.heap.size, 3, none⟩ = some (.slice ar rs.length cr)) ∧ (w'.cell? ⟨wr.heap.size, 0, none⟩ = some (.int .i64 x1) ∧ w'.cell? ⟨wr.heap.size, 1, none⟩ = some (.slice a2 nx c2) ∧ w'.cell? ⟨wr.heap.size, 2, none⟩ = some (.string ⟨x2.toArray⟩) ∧ w'.cell? ⟨wr.heap.size, 3, none⟩ = some (.int .i64 x3))) (first | exact ks)
          (first
            | (go_at_call 47; refine (HC1.out _ (by exact HBD.out)).mono ?_; rintro e w7 ⟨rfl, hb7⟩
               have ks := And.intro (PD.out.below hb7 hltp).cells (XD.out.below hb7 hltx).cells
               have C7 := Lib.hid hb7
               have D7 := Lib.hid (bth HBD.out hb7 (Nat.le_refl _))
               clear hb7)
            | (go_at_call 58; refine (HC3.out _ (by exact D7.out)).mono ?_; rintro e w8 ⟨rfl, hb8⟩
               have C8 := Lib.hid (bth C7.out hb8 (Nat.le_refl _))
               have ks := And.intro (PD.out.below C8.out hltp).cells (XD.out.below C8.out hltx).cells
               have D8 := Lib.hid (bth D7.out hb8 (Nat.le_refl _))
               clear hb8))
            have HB8 := Lib.hid (bth (Below.drew HBX.out) C8.out (Nat.le_refl _))
            clear ks C7 C8 D7 D8 PD XD HBD
            go_wp2_with fail
            go_roundw
            case rel => exact ⟨k + 1, by omega, by go_num, HB8, HO2⟩
            case measure => simp [intOf]; omega
          · have hq : 0 ≤ q := by have := HQ.out; simpa using this
            have HE : Hid (R = false) := by rw [← HRR.out]; exact goodT_not hlt (by rw [HTP.out]; rfl)
            clear HQ HTP HO
            go_wp2_with fail
            rw [HWX.out]
            go_region_held3 (fun w' => (w'.cell? ⟨w.heap.size, 0, none⟩ = some (.slice an ls.length cn) ∧ w'.cell? ⟨w.heap.size, 1, none⟩ = some (.slice ao l.length co) ∧ w'.cell? ⟨w.heap.size, 2, none⟩ = some (.slice as0 bs.length cs) ∧ w'.cell? ⟨w.heap.size, 3, none⟩ = some (.slice ar rs.length cr)) ∧ (w'.cell? ⟨wr.heap.size, 0, none⟩ = some (.int .i64 x1) ∧ w'.cell? ⟨wr.heap.size, 1, none⟩ = some (.slice a2 nx c2) ∧ w'.cell? ⟨wr.heap.size, 2, none⟩ = some (.string ⟨x2.toArray⟩) ∧ w'.cell? ⟨wr.heap.size, 3, none⟩ = some (.int .i64 x3))) (first | exact ks)
          (first
            | (go_at_call 47; refine (HC1.out _ (by exact HBD.out)).mono ?_; rintro e w7 ⟨rfl, hb7⟩
               have ks := And.intro (PD.out.below hb7 hltp).cells (XD.out.below hb7 hltx).cells
               have C7 := Lib.hid hb7
               have D7 := Lib.hid (bth HBD.out hb7 (Nat.le_refl _))
               clear hb7)
            | (go_at_call 58; refine (HC3.out _ (by exact D7.out)).mono ?_; rintro e w8 ⟨rfl, hb8⟩
               have C8 := Lib.hid (bth C7.out hb8 (Nat.le_refl _))
               have ks := And.intro (PD.out.below C8.out hltp).cells (XD.out.below C8.out hltx).cells
               have D8 := Lib.hid (bth D7.out hb8 (Nat.le_refl _))
               clear hb8))
            have HB8 := Lib.hid D8.out
            clear ks C7 C8 D7 D8 PD XD HBD
            go_wp2_with fail
            go_ret
            exact ⟨by rw [HE.out] <;> rfl, HB8.out⟩
      · have hltz : ¬ ((k : Int) < (T.length : Int)) := by omega
        have HE : Hid (R = true) := by rw [← HRR.out]; exact goodT_of HPL.out H40.out (fun j hj => HO.out j (by omega))
        clear HAT HXT HO HTR
        go_wp2_with fail
        go_ret
        exact ⟨by rw [HE.out] <;> rfl, HBW.out⟩
  · have hd : decide ((T.length : Int) > 40) = true := by simp; omega
    have HE : Hid (R = false) := by rw [← HRR.out]; exact goodT_many h40
    clear HAT HXT HTR h40
    go_enter Try.func13, Try.ntmps13
    go_wp2_with fail
    rw [HWA.out]
    refine HC.out.mono ?_
    rintro e w1 ⟨rfl, hb1⟩
    have HB1 := Lib.hid (bth HA.out hb1 (Nat.le_refl _))
    clear hb1 c0 c1 c2' c3
    go_wp2_with fail
    go_ret
    exact ⟨by rw [HE.out] <;> rfl, HB1.out⟩
theorem implGood9_b {ls : List (List Int)} {l : List Int} {bs : List Bool} {rs : List (List OpT)} {T : List TrT} {b : Bool} (h : goodT ls l bs rs T = b) (v x : Value) (w : World) (hp : PlanV w v ls l bs rs) (hT : RowT w x T) (hx : ∀ l ∈ rs, ∀ f ∈ l, f.2.2.length ≤ maxLen) (hxT : ∀ t ∈ T, HeldT maxLen t) :
    Calls Try.prog 13 #[v, x] w (BoolPost b w) := by
  subst h
  exact implGood9_any ls l bs rs T v x w hp hT hx hxT

end Go.Proofs.Ytngldlconipnnaa

/- Walks: the laws' helpers on lists of traces: copies, whether they are the same. -/
namespace Go.Proofs.Ytngldlconipnnaa
open Go.RowKit Pth

theorem TC_zero (n : Nat) : TC (List.replicate n (.slice none 0 0)) (List.replicate n noTr) = (madeCells #[.int .i64 0, .slice none 0 0, .string ByteArray.empty, .int .i64 0] (n * 4)).toList := by
  apply List.ext_getElem?
  intro j
  have hs : (List.replicate n (Value.slice none 0 0)).length = (List.replicate n noTr).length := by simp
  by_cases hj : j < n * 4
  · have hd : j / 4 < n := by omega
    obtain ⟨q0, q1, q2, q3⟩ := TC_at (l := List.replicate n noTr) hs (k := j / 4) (by simpa using hd)
    have hm : j % 4 = 0 ∨ j % 4 = 1 ∨ j % 4 = 2 ∨ j % 4 = 3 := by omega
    rcases hm with h | h | h | h
    · rw [show j = j / 4 * 4 by omega, q0]
      simp [madeCells, noTr, hd]
    · rw [show j = j / 4 * 4 + 1 by omega, q1]
      have e : (j / 4 * 4 + 1) % 4 = 1 := by omega
      have e2 : j / 4 * 4 + 1 < n * 4 := by omega
      simp [madeCells, e, e2]
    · rw [show j = j / 4 * 4 + 2 by omega, q2]
      have e : (j / 4 * 4 + 2) % 4 = 2 := by omega
      have e2 : j / 4 * 4 + 2 < n * 4 := by omega
      simp [madeCells, noTr, noRes, e, e2]; rfl
    · rw [show j = j / 4 * 4 + 3 by omega, q3]
      have e : (j / 4 * 4 + 3) % 4 = 3 := by omega
      have e2 : j / 4 * 4 + 3 < n * 4 := by omega
      simp [madeCells, noTr, noRes, e, e2]
  · rw [List.getElem?_eq_none (by rw [TC_len hs]; simp; omega)]
    simp [madeCells, hj]
theorem make_rowT (n : Nat) (w : World) (hn : n ≤ 2000000) :
    ∃ w', (Instr.makeSlice 31 (.int .i64 (n : Int)) (.int .i64 (n : Int))).run Try.prog w = .ok (.slice (some ⟨w.heap.size, 0, none⟩) n n) w' ∧
      w'.ownsRow w.heap.size 36 4 (.slice (some ⟨w.heap.size, 0, none⟩) n n) n (TC (List.replicate n (.slice none 0 0)) (List.replicate n noTr)) ∧ Below w.heap.size w w' := by
  obtain ⟨i0, hi, hz0, hz1, hz2⟩ := info_parts elemT.info
  obtain ⟨w', h1, h2, h3⟩ := run_makeSlice_full (P := Try.prog) w w.heap.size _ _ i0 _ 4 elemT.under hi hz0 hz1 .i64 .i64 n (by omega) (by rw [hz2]; exact Nat.le_trans (Nat.mul_le_mul elemT.small hn) (by decide)) (by unfold maxLen; omega) (Nat.le_refl _)
  rw [TC_zero]
  exact ⟨w', h1, h2, (Below.refl _ w).grown h3 (Nat.le_refl _) (fun k hk => by cases hk)⟩
/-- A trace that is stored in a row of the call's own. -/
theorem OwnA.putT {B : Nat} {w : World} {g o cap n : Nat} {sl : List Value} {l : List TrT} (h : OwnA B 36 4 w (.slice (some ⟨g, o, none⟩) n cap) n (TC sl l)) (hs : sl.length = l.length) {k : Nat} (hk : k < l.length) (u : Value) (t : TrT) :
    OwnA B 36 4 ((((w.setCell ⟨g, o + k * 4, none⟩ (.int .i64 t.1)).setCell ⟨g, o + k * 4 + 1, none⟩ u).setCell ⟨g, o + k * 4 + 2, none⟩ (.string ⟨t.2.2.1.toArray⟩)).setCell ⟨g, o + k * 4 + 3, none⟩ (.int .i64 t.2.2.2)) (.slice (some ⟨g, o, none⟩) n cap) n (TC (sl.set k u) (l.set k t)) ∧
    w.grownBy ((((w.setCell ⟨g, o + k * 4, none⟩ (.int .i64 t.1)).setCell ⟨g, o + k * 4 + 1, none⟩ u).setCell ⟨g, o + k * 4 + 2, none⟩ (.string ⟨t.2.2.1.toArray⟩)).setCell ⟨g, o + k * 4 + 3, none⟩ (.int .i64 t.2.2.2)) (some g) := by
  have h1 := h.stored (k * 4) (.int .i64 t.1)
  have h2 := h1.1.stored (k * 4 + 1) u
  have h3 := h2.1.stored (k * 4 + 2) (.string ⟨t.2.2.1.toArray⟩)
  have h4 := h3.1.stored (k * 4 + 3) (.int .i64 t.2.2.2)
  rw [TC_set hs hk u t] at h4
  have hg := grown_trans (grown_trans (grown_trans h1.2 h2.2) h3.2) h4.2
  exact ⟨h4.1, hg⟩
/-- The cells of a trace in a row of the call's own. -/
theorem OwnA.atT {B : Nat} {w : World} {g o cap n : Nat} {sl : List Value} {l : List TrT} (h : OwnA B 36 4 w (.slice (some ⟨g, o, none⟩) n cap) n (TC sl l)) (hs : sl.length = l.length) {k : Nat} (hk : k < l.length) :
    w.cell? ⟨g, o + k * 4, none⟩ = some (.int .i64 l[k].1) ∧ w.cell? ⟨g, o + k * 4 + 1, none⟩ = some (sl[k]'(by omega)) ∧ w.cell? ⟨g, o + k * 4 + 2, none⟩ = some (.string ⟨(l[k]).2.2.1.toArray⟩) ∧ w.cell? ⟨g, o + k * 4 + 3, none⟩ = some (.int .i64 l[k].2.2.2) := by
  obtain ⟨q0, q1, q2, q3⟩ := TC_at hs hk
  exact ⟨h.cell q0, h.cell q1, h.cell q2, h.cell q3⟩
theorem set_mid {α : Type} (a : List α) (k : Nat) (ha : a.length = k) (n : Nat) (hk : k < n) (z x : α) : (a ++ List.replicate (n - k) z).set k x = (a ++ [x]) ++ List.replicate (n - (k + 1)) z := by
  rw [List.set_append_right _ _ (by omega), ha, Nat.sub_self, show n - k = (n - (k + 1)) + 1 by omega, List.replicate_succ, List.set_cons_zero, List.append_assoc]
  rfl
theorem get_mid {α : Type} (a : List α) (k : Nat) (ha : a.length = k) (n : Nat) (hk : k < n) (z : α) : (a ++ List.replicate (n - k) z)[k]? = some z := by
  rw [List.getElem?_append_right (by omega), ha, Nat.sub_self, List.getElem?_replicate]
  simp; omega
/-- Copies of traces. -/
def TracesPost (l : List TrT) (w : World) (e : Ending) (w' : World) : Prop := ∃ v sl, e = .returned v ∧ OwnT w.heap.size w' v sl l ∧ Below w.heap.size w w'

set_option maxRecDepth 20000 in
set_option maxHeartbeats 4000000 in
theorem toTraceS_any (l : List TrT) (v : Value) (w : World) (hrow : RowT w v l) (hl : l.length + totT l ≤ 2000000) :
    Calls Try.prog 23 #[v] w (TracesPost l w) := by
  obtain ⟨a, cap, rfl, hc1, hc2, hat⟩ := hrow.traces
  clear hrow
  unfold maxLen at hc2
  have HAT := Lib.hid hat
  clear hat
  obtain ⟨w0, hmk, hown0, hb0⟩ := make_rowT l.length w (by omega)
  have HN0 := Lib.hid (OwnA.of_own hown0)
  have HB0 := Lib.hid hb0
  clear hown0 hb0
  go_enter Try.func23, Try.ntmps23
  go_wp2_with fail
  clear hmk
  go_loopw [4] (fun i wr => ∃ (k : Nat) (sl : List Value), k ≤ l.length ∧ i = .int .i64 k ∧ sl.length = k ∧ Hid (OwnA w.heap.size 36 4 wr (.slice (some ⟨w.heap.size, 0, none⟩) l.length l.length) l.length (TC (sl ++ List.replicate (l.length - k) (.slice none 0 0)) (l.take k ++ List.replicate (l.length - k) noTr))) ∧ Hid (ListsS w.heap.size wr (sl.zip ((l.take k).map (·.2.1)))) ∧ Hid (Below w.heap.size w wr)) (fun i _ => l.length - (intOf i).toNat)
  case atStart => exact ⟨0, [], Nat.zero_le _, rfl, rfl, by simpa using HN0, by simp [ListsS, Hid], HB0⟩
  case round =>
    clear HN0 HB0
    obtain ⟨k, sl, hk, rfl, hsl, HN, HL, HB⟩ := hrel
    have hbs := HB.out.size
    by_cases hlt : k < l.length
    · obtain ⟨g, o, a2, c2, rfl, hg, ⟨k0, k1, k2, k3⟩, hrk⟩ := HAT.out k hlt
      have s0 := (HB.out.cell (p := ⟨g, o + k * 4, none⟩) hg).trans k0
      have s1 := (HB.out.cell (p := ⟨g, o + k * 4 + 1, none⟩) hg).trans k1
      have s2 := (HB.out.cell (p := ⟨g, o + k * 4 + 2, none⟩) hg).trans k2
      have s3 := (HB.out.cell (p := ⟨g, o + k * 4 + 3, none⟩) hg).trans k3
      have HC := Lib.hid (toTrace_any l[k] _ wr ⟨a2, c2, rfl, hrk.below HB.out⟩ (by have := totT_at hlt; omega))
      have ht : (l.take k).length = k := by rw [List.length_take]; omega
      have hlen : (sl ++ List.replicate (l.length - k) (Value.slice none 0 0)).length = (l.take k ++ List.replicate (l.length - k) noTr).length := by simp; omega
      have hkl : k < (l.take k ++ List.replicate (l.length - k) noTr).length := by simp; omega
      have HP := Lib.hid (fun W (h : OwnA w.heap.size 36 4 W (.slice (some ⟨w.heap.size, 0, none⟩) l.length l.length) l.length (TC (sl ++ List.replicate (l.length - k) (.slice none 0 0)) (l.take k ++ List.replicate (l.length - k) noTr))) u => h.putT hlen hkl u l[k])
      have HG : Hid (∀ W (h : OwnA w.heap.size 36 4 W (.slice (some ⟨w.heap.size, 0, none⟩) l.length l.length) l.length (TC (sl ++ List.replicate (l.length - k) (.slice none 0 0)) (l.take k ++ List.replicate (l.length - k) noTr))),
          W.cell? ⟨w.heap.size, k * 4, none⟩ = some (.int .i64 0) ∧ W.cell? ⟨w.heap.size, k * 4 + 1, none⟩ = some (.slice none 0 0) ∧ W.cell? ⟨w.heap.size, k * 4 + 2, none⟩ = some (.string ByteArray.empty) ∧ W.cell? ⟨w.heap.size, k * 4 + 3, none⟩ = some (.int .i64 0)) := by
        intro W h
        obtain ⟨q0, q1, q2, q3⟩ := h.atT hlen hkl
        have e1 := get_mid (l.take k) k ht l.length hlt noTr
        rw [List.getElem?_eq_getElem hkl] at e1
        have e1 := Option.some.inj e1
        have e2 := get_mid sl k hsl l.length hlt (Value.slice none 0 0)
        rw [List.getElem?_eq_getElem (by omega)] at e2
        have e2 := Option.some.inj e2
        rw [e1, Nat.zero_add] at q0 q2 q3
        rw [e2, Nat.zero_add] at q1
        exact ⟨q0, q1, q2, q3⟩
      have HE1 : Hid (∀ u, (sl ++ List.replicate (l.length - k) (Value.slice none 0 0)).set k u = (sl ++ [u]) ++ List.replicate (l.length - (k + 1)) (.slice none 0 0)) := fun u => set_mid sl k hsl l.length hlt _ u
      have HE2 : Hid ((l.take k ++ List.replicate (l.length - k) noTr).set k l[k] = l.take (k + 1) ++ List.replicate (l.length - (k + 1)) noTr) := by
        show _ = _
        rw [set_mid (l.take k) k ht l.length hlt, ← List.take_succ_eq_append_getElem hlt]
      have HZ : Hid (∀ u, (sl ++ [u]).zip ((l.take (k + 1)).map (·.2.1)) = sl.zip ((l.take k).map (·.2.1)) ++ [(u, l[k].2.1)]) := by
        intro u
        rw [List.take_succ_eq_append_getElem hlt, List.map_append, List.zip_append (by rw [List.length_map]; omega)]
        rfl
      clear k0 k1 k2 k3 hrk ht hlen hkl
      generalize l[k] = x at *
      obtain ⟨x1, xi, x2, x3⟩ := x
      unfold trV TrPost trV at HC
      simp only at s0 s1 s2 s3 HC HP HZ
      go_wp2_with fail
      refine HC.out.mono ?_
      rintro e w1 ⟨b1, d1, rfl, ho1, hb1⟩
      have HB1 := Lib.hid (HB.out.trans (hb1.mono HB.out.size))
      have HN1 := Lib.hid (HN.out.below hb1)
      have HL1 := Lib.hid (HL.out.snoc hb1 ho1 (Nat.le_refl _) HB.out.size)
      rw [← HZ.out] at HL1
      have hp := HP.out w1 HN1.out (.slice b1 xi.length d1)
      rw [HE1.out, HE2.out] at hp
      simp only [Nat.zero_add] at hp
      have HN2 := Lib.hid hp.1
      have HL2 := Lib.hid (HL1.out.grownA HN1.out (by decide) hp.2)
      have HB2 := Lib.hid (HB1.out.trans (only_below hp.2 (Nat.le_refl _) HB1.out.size))
      obtain ⟨q0, q1, q2, q3⟩ := HG.out w1 HN1.out
      have f0 := HN1.out.soft (k * 4)
      have f1 := HN1.out.soft (k * 4 + 1)
      have f2 := HN1.out.soft (k * 4 + 2)
      have f3 := HN1.out.soft (k * 4 + 3)
      clear hp hb1 ho1 HN HB HL HC HE1 HE2 HG HP HZ HN1 HL1 HB1
      go_wp2_with fail
      go_roundw
      case rel => exact ⟨k + 1, sl ++ [.slice b1 xi.length d1], by omega, by go_num, by rw [List.length_append, hsl]; rfl, HN2, HL2, HB2⟩
      case measure => simp [intOf]; omega
    · have hkl : k = l.length := by omega
      rw [hkl, Nat.sub_self, List.replicate_zero, List.replicate_zero, List.append_nil, List.append_nil, List.take_length] at HN
      rw [hkl, List.take_length] at HL
      have HZ : Hid (OwnT w.heap.size wr (.slice (some ⟨w.heap.size, 0, none⟩) l.length l.length) sl l) := ⟨by omega, HN.out, HL.out⟩
      clear HAT HN HL
      go_wp2_with fail
      go_ret
      exact ⟨_, sl, rfl, HZ.out, HB.out⟩

set_option maxRecDepth 20000 in
set_option maxHeartbeats 2000000 in
theorem eqTrace_b {t u : TrT} {b : Bool} {v x : Value} {w : World} (hv : TrV w v t) (hu : TrV w x u) (hl : t.2.1.length ≤ 2000000) (h : decide (t = u) = b) :
    Calls Try.prog 81 #[v, x] w (BoolPost b w) := by
  obtain ⟨t1, ins, o1, o2⟩ := t
  obtain ⟨u1, jns, p1, p2⟩ := u
  obtain ⟨a, c, rfl, hr⟩ := hv
  obtain ⟨a', c', rfl, hr'⟩ := hu
  simp only at hr hr' hl
  unfold trV
  simp only
  have HE : Hid (b = (decide (t1 = u1) && (decide (ins = jns) && decide ((o1, o2) = (p1, p2))))) := by
    show _ = _
    rw [← h, Bool.eq_iff_iff]
    simp only [Bool.and_eq_true, decide_eq_true_eq, Prod.mk.injEq]
  clear h
  obtain ⟨wp, hwp⟩ : ∃ wp, wp = w.alloc (.cells #[.int .i64 t1, .slice a ins.length c, .string ⟨o1.toArray⟩, .int .i64 o2] 36) := ⟨_, rfl⟩
  obtain ⟨wa, hwa⟩ : ∃ wa, wa = wp.alloc (.cells #[.int .i64 u1, .slice a' jns.length c', .string ⟨p1.toArray⟩, .int .i64 p2] 36) := ⟨_, rfl⟩
  have ep : wp.heap.size = w.heap.size + 1 := by rw [hwp]; simp
  have ea : wa.heap.size = w.heap.size + 2 := by rw [hwa]; simp [ep]
  have P0 : Hid (Blk4 wa w.heap.size 36 (.int .i64 t1) (.slice a ins.length c) (.string ⟨o1.toArray⟩) (.int .i64 o2)) := by rw [hwa, hwp]; exact Blk4.new.old _
  have Q0 : Hid (Blk4 wa (w.heap.size + 1) 36 (.int .i64 u1) (.slice a' jns.length c') (.string ⟨p1.toArray⟩) (.int .i64 p2)) := by rw [hwa, ← ep]; exact Blk4.new
  have HA : Hid (Below w.heap.size w wa) := by rw [hwa, hwp]; exact ((Below.refl w.heap.size w).alloc (Nat.le_refl _) _).alloc (by simp) _
  have HWA : Hid ((w.alloc (.cells #[.int .i64 t1, .slice a ins.length c, .string ⟨o1.toArray⟩, .int .i64 o2] 36)).alloc (.cells #[.int .i64 u1, .slice a' jns.length c', .string ⟨p1.toArray⟩, .int .i64 p2] 36) = wa) := by rw [hwa, hwp]; rfl
  have HS := Lib.hid (eqStringS_any ins jns _ _ wa (hr.below HA.out) (hr'.below HA.out) hl)
  clear hwa hwp hr hr'
  by_cases hT : t1 = u1
  · have d1 : (t1 != u1) = false := by simp [hT]
    have HE1 : Hid (b = (decide (ins = jns) && decide ((o1, o2) = (p1, p2)))) := by rw [HE.out, decide_eq_true hT, Bool.true_and]; rfl
    clear HE hT
    generalize decide (ins = jns) = bi at *
    go_enter Try.func81, Try.ntmps81
    go_wp2_with fail
    rw [HWA.out]
    refine HS.out.mono ?_
    rintro e w1 ⟨rfl, hb1⟩
    have HB1 := Lib.hid (bth HA.out hb1 (Nat.le_refl _))
    obtain ⟨_, _, c2, c3⟩ := (P0.out.below hb1 (by omega)).cells
    obtain ⟨_, _, e2, e3⟩ := (Q0.out.below hb1 (by omega)).cells
    have hs1 := hb1.size
    clear hb1 HS
    rcases bi with _ | _
    · go_wp2_with fail
      go_ret
      exact ⟨by rw [HE1.out] <;> rfl, HB1.out⟩
    · obtain ⟨br, hbr⟩ : ∃ br, decide ((o1, o2) = (p1, p2)) = br := ⟨_, rfl⟩
      have HR := Lib.hid (eqResult_b hbr w1)
      unfold resV at HR
      simp only at HR
      rw [hbr, Bool.true_and] at HE1
      clear hbr
      go_wp2_with fail
      refine HR.out.mono ?_
      rintro e w2 ⟨rfl, hb2⟩
      have HB2 := Lib.hid (bth HB1.out hb2 (Nat.le_refl _))
      clear hb2 HR
      rcases br with _ | _
      all_goals
        go_wp2_with fail
        go_ret
        exact ⟨by rw [HE1.out] <;> rfl, HB2.out⟩
  · have d1 : (t1 != u1) = true := by simp [hT]
    have HE1 : Hid (b = false) := by rw [HE.out, decide_eq_false hT, Bool.false_and]; rfl
    clear HE hT HS
    go_enter Try.func81, Try.ntmps81
    go_wp2_with fail
    go_ret
    exact ⟨by rw [HE1.out] <;> rfl, by rw [HWA.out]; exact HA.out⟩

end Go.Proofs.Ytngldlconipnnaa

/- Walks: the laws' marks in traces, and whether they are held. -/
namespace Go.Proofs.Ytngldlconipnnaa
open Go.RowKit Pth

/-- The marks in a trace with n inputs, from k on. -/
def mark1 (k n : Nat) : TrT := ((k : Int), marksT (k + 1) n, (markT (k + 1 + n), ((k + n + 2 : Nat) : Int)))
def marksTr : Nat → List TrT → List TrT
  | _, [] => []
  | k, t :: r => mark1 k t.2.1.length :: marksTr (k + t.2.1.length + 3) r
/-- How many marks traces take. -/
def markN (l : List TrT) : Nat := 3 * l.length + totT l
theorem marksTr_len (k : Nat) (l : List TrT) : (marksTr k l).length = l.length := by
  induction l generalizing k with
  | nil => rfl
  | cons t r ih => rw [marksTr, List.length_cons, List.length_cons, ih]
theorem markN_cons (t : TrT) (l : List TrT) : markN (t :: l) = t.2.1.length + 3 + markN l := by
  simp only [markN, totT, List.length_cons, List.map_cons, List.sum_cons]; omega
theorem markN_next {l : List TrT} {j : Nat} (hj : j < l.length) : markN (l.take (j + 1)) = markN (l.take j) + l[j].2.1.length + 3 := by
  unfold markN
  rw [totT_next hj, List.length_take, List.length_take]; omega
theorem markN_le {l : List TrT} {j : Nat} : markN (l.take j) ≤ markN l := by
  have := totT_le (l := l) (k := j)
  unfold markN
  rw [List.length_take]; omega
theorem marksTr_snoc (k : Nat) (l : List TrT) (t : TrT) : marksTr k (l ++ [t]) = marksTr k l ++ [mark1 (k + markN l) t.2.1.length] := by
  induction l generalizing k with
  | nil => simp [marksTr, markN, totT]
  | cons x r ih =>
    rw [List.cons_append, marksTr, marksTr, ih, List.cons_append, markN_cons]
    rw [show k + x.2.1.length + 3 + markN r = k + (x.2.1.length + 3 + markN r) by omega]
theorem marksTr_next {k : Nat} {l : List TrT} {j : Nat} (hj : j < l.length) : marksTr k (l.take (j + 1)) = marksTr k (l.take j) ++ [mark1 (k + markN (l.take j)) l[j].2.1.length] := by
  rw [List.take_succ_eq_append_getElem hj, marksTr_snoc]
theorem marksTr_at {k : Nat} {l : List TrT} {j : Nat} (hj : j < l.length) : (marksTr k l)[j]'(by rw [marksTr_len]; exact hj) = mark1 (k + markN (l.take j)) l[j].2.1.length := by
  induction l generalizing k j with
  | nil => simp at hj
  | cons x r ih =>
    cases j with
    | zero => simp [marksTr, markN, totT]
    | succ j =>
      simp only [marksTr, List.getElem_cons_succ, List.take_succ_cons]
      rw [ih (by simpa using hj), markN_cons, show k + x.2.1.length + 3 + markN (r.take j) = k + (x.2.1.length + 3 + markN (r.take j)) by omega]

theorem zipT_split {β : Type} {sl : List Value} {M ls : List β} {j : Nat} (hs : sl.length = ls.length) (hM : M.length = j) (hj : j < ls.length) :
    sl.zip (M ++ ls.drop j) = (sl.take j).zip M ++ (sl[j]'(by omega), ls[j]) :: (sl.drop (j + 1)).zip (ls.drop (j + 1)) := by
  have e : sl = sl.take j ++ sl[j]'(by omega) :: sl.drop (j + 1) := by rw [← List.drop_eq_getElem_cons (by omega), List.take_append_drop]
  conv => lhs; rw [e, List.drop_eq_getElem_cons hj]
  rw [List.zip_append (by rw [List.length_take]; omega), List.zip_cons_cons]
theorem zipT_join {β : Type} {sl : List Value} {M ls : List β} {j : Nat} {x : β} (hs : sl.length = ls.length) (hM : M.length = j) (hj : j < ls.length) :
    (sl.take j).zip M ++ (sl[j]'(by omega), x) :: (sl.drop (j + 1)).zip (ls.drop (j + 1)) = sl.zip ((M ++ [x]) ++ ls.drop (j + 1)) := by
  have e : sl = sl.take j ++ sl[j]'(by omega) :: sl.drop (j + 1) := by rw [← List.drop_eq_getElem_cons (by omega), List.take_append_drop]
  conv => rhs; rw [e]
  rw [List.append_assoc, List.zip_append (by rw [List.length_take]; omega), List.singleton_append, List.zip_cons_cons]

theorem set_at {α : Type} (M : List α) (l : List α) (j : Nat) (hM : M.length = j) (hj : j < l.length) (x : α) : (M ++ l.drop j).set j x = (M ++ [x]) ++ l.drop (j + 1) := by
  rw [List.set_append_right _ _ (by omega), hM, Nat.sub_self, List.drop_eq_getElem_cons hj, List.set_cons_zero, List.append_assoc]
  rfl

/-- The traces hold the marks, and only blocks between two have turned. -/
def MarkedTr (B C : Nat) (v : Value) (sl : List Value) (l : List TrT) (k : Nat) (w : World) (e : Ending) (w' : World) : Prop :=
  e = .returned (.int .i64 ((k + markN l : Nat) : Int)) ∧ OwnT B w' v sl (marksTr k l) ∧ OnlyB B C w w'

end Go.Proofs.Ytngldlconipnnaa
