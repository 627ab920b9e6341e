/- Texts of one claim, joined in their order. -/
import Derived.Test.YtngldlconipnnaaGreatDoorM16
import Derived.Test.YtngldlconipnnaaGreatDoorM15

/- Walks: what is made anew after a change, of the program. -/
namespace Go.Proofs.YtngldlconipnnaaGreatDoor
open Go.RowKit Pth

theorem pass_in (one : List ResT → Nat → ResT) (due : List ResT → Nat → Bool) (l : List Int) (s : List ResT × List Int) : ∀ x ∈ (passM one due l s).2, x ∈ s.2 ∨ x ∈ l := by
  induction l generalizing s with
  | nil => intro x hx; exact .inl hx
  | cons k t ih =>
    intro x hx
    simp only [passM] at hx
    rcases ih _ x hx with h | h
    · split at h
      · simp only [List.mem_append, List.mem_singleton] at h
        rcases h with h | h
        · exact .inl h
        · exact .inr (by simp [h])
      · exact .inl h
    · exact .inr (by simp [h])

set_option maxRecDepth 20000 in
set_option maxHeartbeats 8000000 in
theorem again1_any (ls : List (List Int)) (l : List Int) (bs : List Bool) (rs : List (List OpT)) (m0 m : List ResT) (ts : List (List UInt8)) (T : List Int) (y : Nat) (b : Nat) (ta : Option Addr) (tc : Nat) (v : Value) (w : World) (hrem : RemV w v ls l bs rs ts m0 m) (hc : w.cell? ⟨b, 0, none⟩ = some (.slice ta T.length tc)) (hb : b < w.heap.size) (ht : RowV w (.slice ta T.length tc) (I T)) :
    Calls Tryz.prog 85 #[v, .int .i64 (y : Int), .pointer (some ⟨b, 0, none⟩)] w (BoolB (hasL T (y : Int)) w) := by
  have HTT := Lib.hid ht
  have hbw : b < w.heap.size := hb
  obtain ⟨nv, ov, sv, rv, x, u, y, rfl, hp, hts, hr0, hr⟩ := hrem
  have HV := Lib.hid hp
  have HT := Lib.hid hts
  have HR0 := Lib.hid hr0
  have HR := Lib.hid hr
  obtain ⟨nv', ov', sv', rv', he, h1, h2, h3, h4⟩ := hp
  injection he with he
  simp only [Array.mk.injEq, List.cons.injEq, and_true] at he
  obtain ⟨rfl, rfl, rfl, rfl⟩ := he
  obtain ⟨as0, cs, rfl, hs1, hs2, _⟩ := h3.boolsW
  obtain ⟨an, cn, rfl, hn1, hn2, _⟩ := h1.lists
  obtain ⟨ao, co, rfl, ho1, ho2, _⟩ := h2.ints
  obtain ⟨ar, cr, rfl, hr1, hr2, _⟩ := h4.lists
  obtain ⟨at0, ct, rfl, ht1, ht2, _⟩ := hts.texts
  obtain ⟨am, cm, rfl, hm1, hm2, _⟩ := hr0.res
  obtain ⟨az, cz, rfl, hz1, hz2, _⟩ := hr.res
  clear h1 h2 h3 h4 hts hr0 hr
  unfold maxLen at hs2 hn2 ho2 hr2 ht2 hm2 hz2
  obtain ⟨wa, hwa⟩ : ∃ wa, wa = w.alloc (.cells #[.slice an ls.length cn, .slice ao l.length co, .slice as0 bs.length cs, .slice ar rs.length cr, .slice at0 ts.length ct, .slice am m0.length cm, .slice az m.length cz] 121) := ⟨_, rfl⟩
  have hsz : w.heap.size < wa.heap.size := by rw [hwa]; simp
  have P0 : Hid (Blk7 wa w.heap.size 121 (.slice an ls.length cn) (.slice ao l.length co) (.slice as0 bs.length cs) (.slice ar rs.length cr) (.slice at0 ts.length ct) (.slice am m0.length cm) (.slice az m.length cz)) := by rw [hwa]; exact Blk7.new
  have HA : Hid (Below w.heap.size w wa) := by rw [hwa]; exact (Below.refl w.heap.size w).alloc (Nat.le_refl _) _
  have HWA : Hid (w.alloc (.cells #[.slice an ls.length cn, .slice ao l.length co, .slice as0 bs.length cs, .slice ar rs.length cr, .slice at0 ts.length ct, .slice am m0.length cm, .slice az m.length cz] 121) = wa) := by rw [hwa]; rfl
  clear hwa
  have HCO := Lib.hid (contains_any T (y : Int) _ wa (HTT.out.below HA.out))
  clear ht
  go_enter Tryz.func85, Tryz.ntmps85
  go_wp2_with fail
  rw [HWA.out]
  refine HCO.out.mono ?_
  rintro e w1 ⟨rfl, hw1⟩
  subst hw1
  clear HCO
  go_wp2_with fail
  go_ret
  exact ⟨rfl, HA.out⟩

set_option maxRecDepth 20000 in
set_option maxHeartbeats 8000000 in
theorem implAgainAll_any (ls : List (List Int)) (l : List Int) (bs : List Bool) (rs : List (List OpT)) (m : List ResT) (ts : List (List UInt8)) (cs' : List Int) (v u x z : Value) (w : World) (hp : PlanV w v ls l bs rs) (hr : RowR w u m) (hts : RowV w x (S ts)) (hcs : RowV w z (I cs')) (hx : ∀ l ∈ rs, ∀ f ∈ l, f.2.2.length ≤ maxLen) (hxm0 : ∀ f ∈ m, f.1.length ≤ maxLen) (hxt0 : ∀ x ∈ ts, x.length ≤ maxLen) :
    Calls Tryz.prog 28 #[v, u, x, z] w (ResNOk (allR ls l bs rs m ts cs') (allN ls l bs rs m ts cs') (goodC8 ls l bs rs m ts cs') w) := by
  have HV := Lib.hid hp
  obtain ⟨nv, ov, sv, rv, rfl, h1, h2, h3, h4⟩ := hp
  obtain ⟨as0, cs, rfl, hs1, hs2, _⟩ := h3.boolsW
  obtain ⟨an, cn, rfl, hn1, hn2, _⟩ := h1.lists
  obtain ⟨ao, co, rfl, ho1, ho2, _⟩ := h2.ints
  obtain ⟨ar, cr, rfl, hr1, hr2, _⟩ := h4.lists
  clear h1 h2 h3 h4
  have HR := Lib.hid hr
  obtain ⟨am, cm, rfl, hm1, hm2, _⟩ := hr.res
  clear hr
  have HT := Lib.hid hts
  obtain ⟨at0, ct, rfl, ht1, ht2, _⟩ := hts.texts
  clear hts
  unfold maxLen at hs2 hn2 ho2 hr2 hm2 ht2
  have HZ := Lib.hid hcs
  obtain ⟨az, cz, rfl, hz1, hz2, _⟩ := hcs.ints
  clear hcs
  unfold maxLen at hz2
  obtain ⟨wa, hwa⟩ : ∃ wa, wa = w.alloc (.cells #[.slice an ls.length cn, .slice ao l.length co, .slice as0 bs.length cs, .slice ar rs.length cr] 30) := ⟨_, rfl⟩
  have hsz : w.heap.size < wa.heap.size := by rw [hwa]; simp
  have P0 : Hid (Blk4 wa w.heap.size 30 (.slice an ls.length cn) (.slice ao l.length co) (.slice as0 bs.length cs) (.slice ar rs.length cr)) := by rw [hwa]; exact Blk4.new
  have HA : Hid (Below w.heap.size w wa) := by rw [hwa]; exact (Below.refl w.heap.size w).alloc (Nat.le_refl _) _
  have HWA : Hid (w.alloc (.cells #[.slice an ls.length cn, .slice ao l.length co, .slice as0 bs.length cs, .slice ar rs.length cr] 30) = wa) := by rw [hwa]; rfl
  clear hwa
  have HPV : Hid (∀ W, Below w.heap.size w W → PlanV W (.agg #[.slice an ls.length cn, .slice ao l.length co, .slice as0 bs.length cs, .slice ar rs.length cr]) ls l bs rs) := fun W h => HV.out.below h
  have HRV : Hid (∀ W, Below w.heap.size w W → RowR W (.slice am m.length cm) m) := fun W h => HR.out.below h
  have HTV : Hid (∀ W, Below w.heap.size w W → RowV W (.slice at0 ts.length ct) (S ts)) := fun W h => HT.out.below h
  have HGV : Hid (∀ W, Below w.heap.size w W → GraphV W (.agg #[.slice an ls.length cn, .slice ao l.length co]) ls l) := fun W h => by
    obtain ⟨_, _, _, _, he, k1, k2, _, _⟩ := HPV.out W h
    injection he with he
    simp only [Array.mk.injEq, List.cons.injEq, and_true] at he
    obtain ⟨rfl, rfl, _, _⟩ := he
    exact ⟨_, _, rfl, k1, k2⟩
  have HZV : Hid (∀ W, Below w.heap.size w W → RowV W (.slice az cs'.length cz) (I cs')) := fun W h => HZ.out.below h
  obtain ⟨s, hs⟩ : ∃ s, someG ls l cs' = s := ⟨_, rfl⟩
  have HC := Lib.hid (implTouched_any ls l cs' _ _ wa (HGV.out wa HA.out) (HZV.out wa HA.out))
  rw [hs] at HC
  rcases s with _ | _
  · have hgc : goodC8 ls l bs rs m ts cs' = false := by unfold goodC8; rw [hs]; simp
    have HE1 : Hid (allR ls l bs rs m ts cs' = []) := by show _ = _; unfold allR; rw [hgc]; rfl
    have HE2 : Hid (allN ls l bs rs m ts cs' = 0) := by show _ = _; unfold allN; rw [hgc]; rfl
    rw [HE1.out, HE2.out, hgc]
    obtain ⟨c0, c1, c2, c3⟩ := P0.out.cells
    clear hs hx hxm0 hxt0 hgc HE1 HE2
    go_enter Tryz.func28, Tryz.ntmps28
    go_wp2_with fail
    rw [HWA.out]
    refine HC.out.mono ?_
    rintro e w1 ⟨v1, rfl, ho1, hb1⟩
    have HW1 := Lib.hid ((bth HA.out hb1 (Nat.le_refl _)).alloc (Nat.le_trans HA.out.size hb1.size) (.cells #[v1] 24))
    obtain ⟨q1, q2, rfl⟩ := own_slice ho1
    clear hb1 ho1 c0 c1 c2 c3 HC
    go_wp2_with fail
    go_ret3
    exact ⟨_, rfl, none_ownR _ _, HW1.out⟩
  have htl : (touchS ls cs').length ≤ 1000000 := by have := touchA_short ls l cs'; rw [touchA_yes hs] at this; exact this
  rw [show touchA ls l cs' = touchS ls cs' from touchA_yes hs] at HC
  have HOR : Hid (∀ x ∈ (allP ls l bs rs m ts cs').2, x ∈ l) := fun x h => by
    rcases pass_in _ _ _ _ x h with h1 | h1
    · simp at h1
    · exact h1
  have HPLEN : Hid ((allP ls l bs rs m ts cs').2.length ≤ l.length) := by
    show (allP ls l bs rs m ts cs').2.length ≤ l.length
    unfold allP
    exact Nat.le_trans (pass_made _ _ _ _) (by simp)
  obtain ⟨T, hT⟩ : ∃ T, touchS ls cs' = T := ⟨_, rfl⟩
  obtain ⟨g8, hg8⟩ : ∃ g8, goodA8 ls l bs rs m ts = g8 := ⟨_, rfl⟩
  have HSG := (some_yes hs).1
  have hrng : ∀ x ∈ l, 0 ≤ x ∧ x < (ls.length : Int) := fun x hx2 => by have := HSG.tasks x hx2; omega
  have hl10 : l.length ≤ 10 := by have := HSG.same; have := HSG.high; omega
  have HDUE : Hid (∀ W W0 (b : Nat) (ta : Option Addr) (tc : Nat), W0.cell? ⟨b, 0, none⟩ = some (.slice ta T.length tc) → b < W0.heap.size → RowV W0 (.slice ta T.length tc) (I T) → W = W0 → DueV W (.func (.func 85) #[] #[.pointer (some ⟨b, 0, none⟩)]) ls l bs rs ts m (fun _ k => hasL T (k : Int))) := fun W W0 b ta tc h1 h2 h3 h4 => by
    subst h4
    refine ⟨85, #[.pointer (some ⟨b, 0, none⟩)], rfl, enters_of Tryz.func85 (by kernel_rfl) rfl, fun W' hW v M y hrem _ _ _ => ?_⟩
    exact again1_any ls l bs rs m M ts T y b ta tc v W' hrem ((hW.cell (p := ⟨b, 0, none⟩) h2).trans h1) (Nat.lt_of_lt_of_le h2 hW.size) (h3.below hW)
  have HRN : Hid (∀ W z d, Below w.heap.size w W → RowV W z (I d) → (∀ x ∈ d, 0 ≤ x ∧ x < (bs.length : Int)) → d.length ≤ 1000 → Calls Tryz.prog 88 #[.agg #[.slice an ls.length cn, .slice ao l.length co, .slice as0 bs.length cs, .slice ar rs.length cr], z] W fun e w' => e = .returned (.int .i64 (runsL bs d : Int)) ∧ Below W.heap.size W w') := fun W z d h1 h2 h3 h4 => runsIn_any ls l bs rs d _ z W (HPV.out W h1) h2 h3 h4
  rcases g8 with _ | _
  · have hgc : goodC8 ls l bs rs m ts cs' = false := by unfold goodC8; rw [hg8]; rfl
    have HE1 : Hid (allR ls l bs rs m ts cs' = []) := by show _ = _; unfold allR; rw [hgc]; rfl
    have HE2 : Hid (allN ls l bs rs m ts cs' = 0) := by show _ = _; unfold allN; rw [hgc]; rfl
    rw [HE1.out, HE2.out, hgc]
    have HMW := Lib.hid (fun W fv (h : Below w.heap.size w W) => makeWhere_no ls l bs rs m ts an ao as0 ar at0 am cn co cs cr ct cm fv (fun _ _ => false) W (HPV.out W h) (HRV.out W h) (HTV.out W h) hx hxm0 hxt0 hg8)
    rw [hT] at HC
    obtain ⟨c0, c1, c2, c3⟩ := P0.out.cells
    clear hs hx hxm0 hxt0 hgc HE1 HE2 hg8 hT HOR HPLEN HSG hrng htl
    go_enter Tryz.func28, Tryz.ntmps28
    go_wp2_with fail
    rw [HWA.out]
    refine HC.out.mono ?_
    rintro e w1 ⟨v1, rfl, ho1, hb1⟩
    have HB1 := Lib.hid hb1
    have HT1 := Lib.hid (RowV.of_own ho1)
    obtain ⟨ta, tc, rfl⟩ := own_slice ho1
    obtain ⟨wb, hwb⟩ : ∃ wb, wb = w1.alloc (.cells #[.slice ta T.length tc] 24) := ⟨_, rfl⟩
    have hBB : Below w1.heap.size w1 wb := by rw [hwb]; exact (Below.refl _ w1).alloc (Nat.le_refl _) _
    have HWB : Hid (w1.alloc (.cells #[.slice ta T.length tc] 24) = wb) := by rw [hwb]; rfl
    have Q0 : Hid (Blk1 wb w1.heap.size 24 (.slice ta T.length tc)) := by rw [hwb]; exact Blk1.new
    have hsb : w1.heap.size < wb.heap.size := by rw [hwb]; simp
    have KB := Lib.hid (bth HB1.out hBB (Nat.le_refl _))
    have KW := Lib.hid (bth HA.out KB.out (Nat.le_refl _))
    have HTB := Lib.hid (HT1.out.below hBB)
    have hlt1 : w.heap.size < w1.heap.size := Nat.lt_of_lt_of_le hsz hb1.size
    have HM := Lib.hid (HMW.out wb (.func (.func 85) #[] #[.pointer (some ⟨w1.heap.size, 0, none⟩)]) KW.out)
    clear hb1 ho1 c0 c1 c2 c3 HC hwb hBB
    obtain ⟨c0, c1, c2, c3⟩ := (P0.out.below HB1.out hsz).cells
    go_wp2_with fail
    rw [HWB.out]
    refine HM.out.mono ?_
    rintro e w6 ⟨v6, u6, rfl, ho6, hd6, hb6⟩
    have HR6 := Lib.hid ho6
    have HB6 := Lib.hid (bth KB.out hb6 (Nat.le_refl _))
    have HW6 := Lib.hid (bth KW.out hb6 (Nat.le_refl _))
    have HR7 := Lib.hid (HRN.out w6 _ _ HW6.out (RowV.of_own hd6) (fun x h => by simp at h) (by simp))
    have hs6 : w.heap.size ≤ wb.heap.size := Nat.le_trans HA.out.size KB.out.size
    obtain ⟨q1, q2, rfl⟩ := own_sliceG ho6
    obtain ⟨q3, q4, rfl⟩ := own_slice hd6
    clear hb6 ho6 hd6 c0 c1 c2 c3 HM
    obtain ⟨c0, c1, c2, c3⟩ := (P0.out.below HB6.out hsz).cells
    go_wp2_with fail
    refine HR7.out.mono ?_
    rintro e w7 ⟨rfl, hb7⟩
    have HW7 := Lib.hid (bth HW6.out hb7 (Nat.le_refl _))
    have HR6 := Lib.hid (own_belowG HR6.out hb7)
    clear hb7 c0 c1 c2 c3
    go_wp2_with fail
    go_ret3
    exact ⟨_, rfl, own_baseG HR6.out hs6, HW7.out⟩
  have hgc : goodC8 ls l bs rs m ts cs' = true := by unfold goodC8; rw [hg8, hs]; rfl
  have hE1 : allR ls l bs rs m ts cs' = (allP ls l bs rs m ts cs').1 := by unfold allR; rw [hgc]; rfl
  have hE2 : allN ls l bs rs m ts cs' = (runsL bs (allP ls l bs rs m ts cs').2 : Int) := by unfold allN; rw [hgc]; rfl
  rw [hE1, hE2, hgc]
  have hbl := (plan_parts (good8_parts hg8).1).2.1
  have HMW := Lib.hid (fun W fv (h : Below w.heap.size w W) (hd : DueV W fv ls l bs rs ts m (fun _ k => hasL T (k : Int))) => makeWhere_yes ls l bs rs m ts an ao as0 ar at0 am cn co cs cr ct cm fv (fun _ k => hasL T (k : Int)) W (HPV.out W h) (HRV.out W h) (HTV.out W h) hx hxm0 hxt0 hg8 hd)
  have hAP : allP ls l bs rs m ts cs' = passM (oneM ls bs rs ts) (fun _ k => hasL T (k : Int)) l (m, []) := by unfold allP; rw [hT]
  have HDR : Hid (∀ x ∈ (allP ls l bs rs m ts cs').2, 0 ≤ x ∧ x < (bs.length : Int)) := fun x h => by have := hrng x (HOR.out x h); omega
  rw [← hAP] at HMW
  rw [hT] at HC
  obtain ⟨P, hP⟩ : ∃ P, allP ls l bs rs m ts cs' = P := ⟨_, rfl⟩
  rw [hP] at HMW HDR HPLEN ⊢
  obtain ⟨R, D⟩ := P
  simp only at HMW HDR HPLEN ⊢
  have HD10 : Hid (D.length ≤ 1000) := by have := HPLEN.out; show _ ≤ _; omega
  obtain ⟨c0, c1, c2, c3⟩ := P0.out.cells
  clear hs hx hxm0 hxt0 hgc hE1 hE2 hg8 hT HOR HPLEN HSG hrng htl hbl hAP hP
  go_enter Tryz.func28, Tryz.ntmps28
  go_wp2_with fail
  rw [HWA.out]
  refine HC.out.mono ?_
  rintro e w1 ⟨v1, rfl, ho1, hb1⟩
  have HB1 := Lib.hid hb1
  have HT1 := Lib.hid (RowV.of_own ho1)
  obtain ⟨ta, tc, rfl⟩ := own_slice ho1
  obtain ⟨wb, hwb⟩ : ∃ wb, wb = w1.alloc (.cells #[.slice ta T.length tc] 24) := ⟨_, rfl⟩
  have hBB : Below w1.heap.size w1 wb := by rw [hwb]; exact (Below.refl _ w1).alloc (Nat.le_refl _) _
  have HWB : Hid (w1.alloc (.cells #[.slice ta T.length tc] 24) = wb) := by rw [hwb]; rfl
  have Q0 : Hid (Blk1 wb w1.heap.size 24 (.slice ta T.length tc)) := by rw [hwb]; exact Blk1.new
  have hsb : w1.heap.size < wb.heap.size := by rw [hwb]; simp
  have KB := Lib.hid (bth HB1.out hBB (Nat.le_refl _))
  have KW := Lib.hid (bth HA.out KB.out (Nat.le_refl _))
  have HTB := Lib.hid (HT1.out.below hBB)
  have hlt1 : w.heap.size < w1.heap.size := Nat.lt_of_lt_of_le hsz hb1.size
  have HM := Lib.hid (HMW.out wb _ KW.out (HDUE.out wb wb w1.heap.size ta tc Q0.out.cell hsb HTB.out rfl))
  clear hb1 ho1 c0 c1 c2 c3 HC hwb hBB
  obtain ⟨c0, c1, c2, c3⟩ := (P0.out.below HB1.out hsz).cells
  go_wp2_with fail
  rw [HWB.out]
  refine HM.out.mono ?_
  rintro e w6 ⟨v6, u6, rfl, ho6, hd6, hb6⟩
  have HR6 := Lib.hid ho6
  have HB6 := Lib.hid (bth KB.out hb6 (Nat.le_refl _))
  have HW6 := Lib.hid (bth KW.out hb6 (Nat.le_refl _))
  have HR7 := Lib.hid (HRN.out w6 _ _ HW6.out (RowV.of_own hd6) HDR.out HD10.out)
  have hs6 : w.heap.size ≤ wb.heap.size := Nat.le_trans HA.out.size KB.out.size
  obtain ⟨q1, q2, rfl⟩ := own_sliceG ho6
  obtain ⟨q3, q4, rfl⟩ := own_slice hd6
  clear hb6 ho6 hd6 c0 c1 c2 c3 HM
  obtain ⟨c0, c1, c2, c3⟩ := (P0.out.below HB6.out hsz).cells
  go_wp2_with fail
  refine HR7.out.mono ?_
  rintro e w7 ⟨rfl, hb7⟩
  have HW7 := Lib.hid (bth HW6.out hb7 (Nat.le_refl _))
  have HR6 := Lib.hid (own_belowG HR6.out hb7)
  clear hb7 c0 c1 c2 c3
  go_wp2_with fail
  go_ret3
  exact ⟨_, rfl, own_baseG HR6.out hs6, HW7.out⟩

end Go.Proofs.YtngldlconipnnaaGreatDoor

/- Walks: what is made anew where something needed came out unlike, of the program. -/
namespace Go.Proofs.YtngldlconipnnaaGreatDoor
open Go.RowKit Pth

set_option maxRecDepth 20000 in
set_option maxHeartbeats 2000000 in
theorem indexFuncF_any (l : List Int) (p : Int → Bool) (D : Int → Prop) (v fv : Value) (w : World) (hrow : RowV w v (I l)) (ht : TestF w fv D p) (hD : ∀ x ∈ l, D x) :
    Calls Tryz.prog 183 #[v, fv] w (PlaceB (l.any p) w) := by
  obtain ⟨a, cap0, rfl, hc1, hc2, hat⟩ := hrow.ints
  obtain ⟨K, fst, cap, rfl, hent, ht⟩ := ht
  have HT := Lib.hid ht
  have HAT := Lib.hid hat
  have HD := Lib.hid hD
  clear hrow hat ht hD
  unfold maxLen at hc2
  go_enter Tryz.func183, Tryz.ntmps183
  go_wp2_with fail
  go_loopw [8] (fun i wr => ∃ k : Nat, k ≤ l.length ∧ i = .int .i64 k ∧ Hid ((l.take k).any p = false) ∧ Hid (Below w.heap.size w wr)) (fun i _ => l.length - (intOf i).toNat)
  case atStart => exact ⟨0, Nat.zero_le _, by go_num, by simp [Hid], Below.refl _ _⟩
  case round =>
    obtain ⟨k, hk, rfl, HO, HB⟩ := hrel
    by_cases hlt : k < l.length
    · obtain ⟨g, o, rfl, hg, hcell0⟩ := HAT.out k hlt
      have hcell : wr.cell? ⟨g, o + k, none⟩ = some (.int .i64 l[k]) := by rw [HB.out.cell (p := ⟨g, o + k, none⟩) hg]; exact hcell0
      have hltz : (k : Int) < (l.length : Int) := by omega
      have HC := HT.out wr HB.out l[k] (HD.out _ (List.getElem_mem hlt))
      clear hcell0
      rcases hb : p l[k] with _ | _
      · have HS : Hid ((l.take (k + 1)).any p = false) := by
          show _ = _
          rw [List.take_succ_eq_append_getElem hlt, List.any_append, HO.out]
          simp [hb]
        rw [hb] at HC
        have HCC := Lib.hid HC
        clear HC hb HO
        generalize l[k] = x at *
        go_wp2_with fail
        refine HCC.out.mono ?_
        rintro e w1 ⟨rfl, hb1⟩
        have HB1 := Lib.hid (bth HB.out hb1 (Nat.le_refl _))
        clear hb1
        go_wp2_with fail
        go_roundw
        case rel => exact ⟨k + 1, by omega, by go_num, HS, HB1⟩
        case measure => simp [intOf]; omega
      · have HS : Hid (l.any p = true) := by
          show _ = _
          rw [List.any_eq_true]
          exact ⟨l[k], List.getElem_mem hlt, hb⟩
        rw [hb] at HC
        have HCC := Lib.hid HC
        clear HC hb HO
        generalize l[k] = x at *
        go_wp2_with fail
        refine HCC.out.mono ?_
        rintro e w1 ⟨rfl, hb1⟩
        have HB1 := Lib.hid (bth HB.out hb1 (Nat.le_refl _))
        clear hb1
        go_wp2_with fail
        go_ret
        exact ⟨(k : Int), rfl, by rw [HS.out]; simp, HB1.out⟩
    · have HS : Hid (l.any p = false) := by
        show _ = _
        have := HO.out
        rwa [List.take_of_length_le (by omega)] at this
      have hltz : ¬ ((k : Int) < (l.length : Int)) := by omega
      clear HO
      go_wp2_with fail
      go_ret
      exact ⟨-1, rfl, by rw [HS.out]; simp, HB.out⟩


set_option maxRecDepth 20000 in
set_option maxHeartbeats 1000000 in
theorem containsFuncF_any (l : List Int) (p : Int → Bool) (D : Int → Prop) (v fv : Value) (w : World) (hrow : RowV w v (I l)) (ht : TestF w fv D p) (hD : ∀ x ∈ l, D x) :
    Calls Tryz.prog 150 #[v, fv] w (BoolB (l.any p) w) := by
  have HC := Lib.hid (indexFuncF_any l p D v fv w hrow ht hD)
  clear hrow ht hD
  go_enter Tryz.func150, Tryz.ntmps150
  go_wp2_with fail
  refine HC.out.mono ?_
  rintro e w1 ⟨i, rfl, hi, hb⟩
  have HI := Lib.hid hi
  have HB := Lib.hid hb
  clear hi hb HC
  go_wp2_with fail
  go_ret
  refine ⟨?_, HB.out⟩
  show Ending.returned (.bool (decide (0 ≤ i))) = _
  congr 2
  rw [Bool.eq_iff_iff, decide_eq_true_eq]
  exact HI.out


set_option maxRecDepth 20000 in
set_option maxHeartbeats 8000000 in
theorem unlike_any (ls : List (List Int)) (l : List Int) (bs : List Bool) (rs : List (List OpT)) (m0 m : List ResT) (ts : List (List UInt8)) (t : Nat) (v : Value) (w : World) (hrem : RemV w v ls l bs rs ts m0 m) (hpl : planA ls l bs rs = true) (hmb : m.length = bs.length) (hmb0 : m0.length = bs.length) (ht : t < ls.length) :
    Calls Tryz.prog 151 #[v, .int .i64 (t : Int)] w (BoolB (unlikeP m0 m (t : Int)) w) := by
  have hbl := (plan_parts hpl).2.1
  have htm : t < m.length := by omega
  have htm0 : t < m0.length := by omega
  obtain ⟨nv, ov, sv, rv, x, u, y, rfl, hp, hts, hr0, hr⟩ := hrem
  have HV := Lib.hid hp
  have HT := Lib.hid hts
  have HR0 := Lib.hid hr0
  have HR := Lib.hid hr
  obtain ⟨nv', ov', sv', rv', he, h1, h2, h3, h4⟩ := hp
  injection he with he
  simp only [Array.mk.injEq, List.cons.injEq, and_true] at he
  obtain ⟨rfl, rfl, rfl, rfl⟩ := he
  obtain ⟨as0, cs, rfl, hs1, hs2, _⟩ := h3.boolsW
  obtain ⟨an, cn, rfl, hn1, hn2, _⟩ := h1.lists
  obtain ⟨ao, co, rfl, ho1, ho2, _⟩ := h2.ints
  obtain ⟨ar, cr, rfl, hr1, hr2, _⟩ := h4.lists
  obtain ⟨at0, ct, rfl, ht1, ht2, _⟩ := hts.texts
  obtain ⟨am, cm, rfl, hm1, hm2, hatb⟩ := hr0.res
  obtain ⟨az, cz, rfl, hz1, hz2, hatm⟩ := hr.res
  clear h1 h2 h3 h4 hts hr0 hr
  unfold maxLen at hs2 hn2 ho2 hr2 ht2 hm2 hz2
  obtain ⟨gz, oz, rfl, hgz, hz0, hz1'⟩ := hatm t htm
  obtain ⟨gb, ob, rfl, hgb, hb0, hb1'⟩ := hatb t htm0
  obtain ⟨wa, hwa⟩ : ∃ wa, wa = w.alloc (.cells #[.slice an ls.length cn, .slice ao l.length co, .slice as0 bs.length cs, .slice ar rs.length cr, .slice at0 ts.length ct, .slice (some ⟨gb, ob, none⟩) m0.length cm, .slice (some ⟨gz, oz, none⟩) m.length cz] 121) := ⟨_, rfl⟩
  have hsz : w.heap.size < wa.heap.size := by rw [hwa]; simp
  have P0 : Hid (Blk7 wa w.heap.size 121 (.slice an ls.length cn) (.slice ao l.length co) (.slice as0 bs.length cs) (.slice ar rs.length cr) (.slice at0 ts.length ct) (.slice (some ⟨gb, ob, none⟩) m0.length cm) (.slice (some ⟨gz, oz, none⟩) m.length cz)) := by rw [hwa]; exact Blk7.new
  have HA : Hid (Below w.heap.size w wa) := by rw [hwa]; exact (Below.refl w.heap.size w).alloc (Nat.le_refl _) _
  have HWA : Hid (w.alloc (.cells #[.slice an ls.length cn, .slice ao l.length co, .slice as0 bs.length cs, .slice ar rs.length cr, .slice at0 ts.length ct, .slice (some ⟨gb, ob, none⟩) m0.length cm, .slice (some ⟨gz, oz, none⟩) m.length cz] 121) = wa) := by rw [hwa]; rfl
  clear hwa
  have htz : (t : Int) < (m.length : Int) := by omega
  have htz0 : (t : Int) < (m0.length : Int) := by omega
  have hup : unlikeP m0 m (t : Int) = decide (m[t] ≠ m0[t]) := by unfold unlikeP; rw [Int.toNat_natCast, getD_at _ htm, getD_at _ htm0]
  rw [hup]
  have s1 := (HA.out.cell (p := ⟨gz, oz + t * 2, none⟩) hgz).trans hz0
  have s2 := (HA.out.cell (p := ⟨gz, oz + t * 2 + 1, none⟩) hgz).trans hz1'
  have s3 := (HA.out.cell (p := ⟨gb, ob + t * 2, none⟩) hgb).trans hb0
  have s4 := (HA.out.cell (p := ⟨gb, ob + t * 2 + 1, none⟩) hgb).trans hb1'
  obtain ⟨c0, c1, c2, c3, c4, c5, c6⟩ := P0.out.cells
  clear hatm hatb hpl hmb hmb0 hz0 hz1' hb0 hb1' hbl hup
  generalize m[t] = q at *
  generalize m0[t] = p at *
  obtain ⟨q1, q2⟩ := q
  obtain ⟨p1, p2⟩ := p
  simp only at s1 s2 s3 s4
  unfold BoolB
  by_cases he1 : q1 = p1
  · by_cases he2 : q2 = p2
    · subst he1 he2
      have HE : Hid (decide ((q1, q2) ≠ ((q1, q2) : ResT)) = false) := by show _ = _; simp
      go_enter Tryz.func151, Tryz.ntmps151
      go_upto_region 1 with fail
      rw [HWA.out]
      go_quiet (fail)
      go_wp2_with fail
      go_ret
      exact ⟨by rw [HE.out] <;> rfl, below_drewN HA.out _⟩
    · subst he1
      have HE : Hid (decide ((q1, q2) ≠ ((q1, p2) : ResT)) = true) := by show _ = _; simp [he2]
      go_enter Tryz.func151, Tryz.ntmps151
      go_upto_region 1 with fail
      rw [HWA.out]
      go_quiet (fail)
      go_wp2_with fail
      go_ret
      exact ⟨by rw [HE.out] <;> rfl, below_drewN HA.out _⟩
  · have HE : Hid (decide ((q1, q2) ≠ ((p1, p2) : ResT)) = true) := by show _ = _; simp [he1]
    go_enter Tryz.func151, Tryz.ntmps151
    go_upto_region 1 with fail
    rw [HWA.out]
    go_quiet (fail)
    go_wp2_with fail
    go_ret
    exact ⟨by rw [HE.out] <;> rfl, below_drewN HA.out _⟩

set_option maxRecDepth 20000 in
set_option maxHeartbeats 8000000 in
theorem upset_any (ls : List (List Int)) (l : List Int) (bs : List Bool) (rs : List (List OpT)) (m0 m : List ResT) (ts : List (List UInt8)) (t : Nat) (v : Value) (w : World) (hrem : RemV w v ls l bs rs ts m0 m) (hpl : planA ls l bs rs = true) (hmb : m.length = bs.length) (hmb0 : m0.length = bs.length) (ht : t < ls.length) :
    Calls Tryz.prog 97 #[v, .int .i64 (t : Int)] w (BoolB (cutDue ls bs m0 m t) w) := by
  have HREM := Lib.hid hrem
  have hbl := (plan_parts hpl).2.1
  have htb : t < bs.length := by omega
  obtain ⟨nv, ov, sv, rv, x, u, y, rfl, hp, hts, hr0, hr⟩ := hrem
  have HV := Lib.hid hp
  have HT := Lib.hid hts
  have HR0 := Lib.hid hr0
  have HR := Lib.hid hr
  obtain ⟨nv', ov', sv', rv', he, h1, h2, h3, h4⟩ := hp
  injection he with he
  simp only [Array.mk.injEq, List.cons.injEq, and_true] at he
  obtain ⟨rfl, rfl, rfl, rfl⟩ := he
  obtain ⟨as0, cs, rfl, hs1, hs2, hats⟩ := h3.boolsW
  obtain ⟨an, cn, rfl, hn1, hn2, hatn⟩ := h1.lists
  obtain ⟨ao, co, rfl, ho1, ho2, _⟩ := h2.ints
  obtain ⟨ar, cr, rfl, hr1, hr2, _⟩ := h4.lists
  obtain ⟨at0, ct, rfl, ht1, ht2, _⟩ := hts.texts
  obtain ⟨am, cm, rfl, hm1, hm2, _⟩ := hr0.res
  obtain ⟨az, cz, rfl, hz1, hz2, _⟩ := hr.res
  clear h1 h2 h3 h4 hts hr0 hr
  unfold maxLen at hs2 hn2 ho2 hr2 ht2 hm2 hz2
  obtain ⟨gs, os, rfl, hgs, hcs⟩ := hats t htb
  obtain ⟨gn, on, an2, cn2, rfl, hgn, hcn, hrn⟩ := hatn t ht
  obtain ⟨wa, hwa⟩ : ∃ wa, wa = w.alloc (.cells #[.slice (some ⟨gn, on, none⟩) ls.length cn, .slice ao l.length co, .slice (some ⟨gs, os, none⟩) bs.length cs, .slice ar rs.length cr, .slice at0 ts.length ct, .slice am m0.length cm, .slice az m.length cz] 121) := ⟨_, rfl⟩
  have hsz : w.heap.size < wa.heap.size := by rw [hwa]; simp
  have P0 : Hid (Blk7 wa w.heap.size 121 (.slice (some ⟨gn, on, none⟩) ls.length cn) (.slice ao l.length co) (.slice (some ⟨gs, os, none⟩) bs.length cs) (.slice ar rs.length cr) (.slice at0 ts.length ct) (.slice am m0.length cm) (.slice az m.length cz)) := by rw [hwa]; exact Blk7.new
  have HA : Hid (Below w.heap.size w wa) := by rw [hwa]; exact (Below.refl w.heap.size w).alloc (Nat.le_refl _) _
  have HWA : Hid (w.alloc (.cells #[.slice (some ⟨gn, on, none⟩) ls.length cn, .slice ao l.length co, .slice (some ⟨gs, os, none⟩) bs.length cs, .slice ar rs.length cr, .slice at0 ts.length ct, .slice am m0.length cm, .slice az m.length cz] 121) = wa) := by rw [hwa]; rfl
  clear hwa
  have hzb : (t : Int) < (bs.length : Int) := by omega
  have hzn : (t : Int) < (ls.length : Int) := by omega
  have hdue : cutDue ls bs m0 m t = (bs[t] || (ls[t]).any (unlikeP m0 m)) := by unfold cutDue; rw [getD_at _ ht, getD_at _ htb]
  rw [hdue]
  have s1 := (HA.out.cell (p := ⟨gs, os + t, none⟩) hgs).trans hcs
  have s2 := (HA.out.cell (p := ⟨gn, on + t, none⟩) hgn).trans hcn
  have HNIN := Lib.hid (plan_task hpl ht).2
  have HTF : Hid (∀ W, Below w.heap.size w W → TestF W (.func (.func 151) #[.agg #[.slice (some ⟨gn, on, none⟩) ls.length cn, .slice ao l.length co, .slice (some ⟨gs, os, none⟩) bs.length cs, .slice ar rs.length cr, .slice at0 ts.length ct, .slice am m0.length cm, .slice az m.length cz]] #[]) (fun x => 0 ≤ x ∧ x < (ls.length : Int)) (unlikeP m0 m)) := fun W hW => ⟨151, #[.agg #[.slice (some ⟨gn, on, none⟩) ls.length cn, .slice ao l.length co, .slice (some ⟨gs, os, none⟩) bs.length cs, .slice ar rs.length cr, .slice at0 ts.length ct, .slice am m0.length cm, .slice az m.length cz]], #[], rfl, enters_of Tryz.func151 (by kernel_rfl) rfl, fun W' hW' x hxl => by
    obtain ⟨y, rfl⟩ : ∃ y : Nat, x = y := ⟨x.toNat, by omega⟩
    exact unlike_any ls l bs rs m0 m ts y _ W' (HREM.out.below (bth hW hW' (Nat.le_refl _))) hpl hmb hmb0 (by omega)⟩
  have HCF := Lib.hid (fun W (h : Below w.heap.size w W) => containsFuncF_any ls[t] (unlikeP m0 m) (fun x => 0 ≤ x ∧ x < (ls.length : Int)) (.slice an2 ls[t].length cn2) _ W (hrn.below h) (HTF.out W h) HNIN.out)
  have hltp : w.heap.size < wa.heap.size := hsz
  have hlts : gs < wa.heap.size := by omega
  have hltn : gn < wa.heap.size := by omega
  clear hats hatn hpl hmb hmb0 hcs hcn hbl hdue hrn HTF
  generalize (ls[t]).any (unlikeP m0 m) = a at *
  unfold BoolB at HCF ⊢
  generalize bs[t] = sb at *
  rcases sb with _ | _
  · have PD : Hid (Blk7 wa.drew w.heap.size 121 (.slice (some ⟨gn, on, none⟩) ls.length cn) (.slice ao l.length co) (.slice (some ⟨gs, os, none⟩) bs.length cs) (.slice ar rs.length cr) (.slice at0 ts.length ct) (.slice am m0.length cm) (.slice az m.length cz)) := P0.out.below (Below.drew (Below.refl _ _)) hsz
    have SD : Hid (wa.drew.cell? ⟨gs, os + t, none⟩ = some (.bool false) ∧ wa.drew.cell? ⟨gn, on + t, none⟩ = some (.slice an2 ls[t].length cn2)) := ⟨s1, s2⟩
    have HAD := Lib.hid (Below.drew HA.out)
    have ks := And.intro PD.out.cells SD.out
    clear s1 s2
    go_enter Tryz.func97, Tryz.ntmps97
    go_upto_region 1 with fail
    rw [HWA.out]
    go_region_held3 (fun w' => (w'.cell? ⟨w.heap.size, 0, none⟩ = some (.slice (some ⟨gn, on, none⟩) ls.length cn) ∧ w'.cell? ⟨w.heap.size, 1, none⟩ = some (.slice ao l.length co) ∧ w'.cell? ⟨w.heap.size, 2, none⟩ = some (.slice (some ⟨gs, os, none⟩) bs.length cs) ∧ w'.cell? ⟨w.heap.size, 3, none⟩ = some (.slice ar rs.length cr) ∧ w'.cell? ⟨w.heap.size, 4, none⟩ = some (.slice at0 ts.length ct) ∧ w'.cell? ⟨w.heap.size, 5, none⟩ = some (.slice am m0.length cm) ∧ w'.cell? ⟨w.heap.size, 6, none⟩ = some (.slice az m.length cz)) ∧ (w'.cell? ⟨gs, os + t, none⟩ = some (.bool false) ∧ w'.cell? ⟨gn, on + t, none⟩ = some (.slice an2 ls[t].length cn2))) (first | exact ks)
      (first
        | (go_at_call 150; refine (HCF.out _ (by exact HAD.out)).mono ?_; rintro e w8 ⟨rfl, hb8⟩
           have ks := And.intro (PD.out.below hb8 hltp).cells (And.intro ((hb8.cell (p := ⟨gs, os + t, none⟩) hlts).trans SD.out.1) ((hb8.cell (p := ⟨gn, on + t, none⟩) hltn).trans SD.out.2))
           have C8 := Lib.hid hb8
           clear hb8))
    all_goals
      have HB8 := Lib.hid (bth HAD.out C8.out (Nat.le_refl _))
      clear ks
      go_wp2_with fail
      go_ret
      exact ⟨by simp, HB8.out⟩
  · obtain ⟨c0, c1, c2, c3, c4, c5, c6⟩ := P0.out.cells
    go_enter Tryz.func97, Tryz.ntmps97
    go_upto_region 1 with fail
    rw [HWA.out]
    go_quiet (fail)
    go_wp2_with fail
    go_ret
    exact ⟨by simp, below_drewN HA.out _⟩

set_option maxRecDepth 20000 in
set_option maxHeartbeats 8000000 in
theorem implAgainCut_any (ls : List (List Int)) (l : List Int) (bs : List Bool) (rs : List (List OpT)) (m : List ResT) (ts : List (List UInt8)) (v u x : Value) (w : World) (hp : PlanV w v ls l bs rs) (hr : RowR w u m) (hts : RowV w x (S ts)) (hx : ∀ l ∈ rs, ∀ f ∈ l, f.2.2.length ≤ maxLen) (hxm0 : ∀ f ∈ m, f.1.length ≤ maxLen) (hxt0 : ∀ x ∈ ts, x.length ≤ maxLen) :
    Calls Tryz.prog 39 #[v, u, x] w (ResNOk (cutR ls l bs rs m ts) (cutN ls l bs rs m ts) (goodA8 ls l bs rs m ts) w) := by
  have HV := Lib.hid hp
  obtain ⟨nv, ov, sv, rv, rfl, h1, h2, h3, h4⟩ := hp
  obtain ⟨as0, cs, rfl, hs1, hs2, _⟩ := h3.boolsW
  obtain ⟨an, cn, rfl, hn1, hn2, _⟩ := h1.lists
  obtain ⟨ao, co, rfl, ho1, ho2, _⟩ := h2.ints
  obtain ⟨ar, cr, rfl, hr1, hr2, _⟩ := h4.lists
  clear h1 h2 h3 h4
  have HR := Lib.hid hr
  obtain ⟨am, cm, rfl, hm1, hm2, _⟩ := hr.res
  clear hr
  have HT := Lib.hid hts
  obtain ⟨at0, ct, rfl, ht1, ht2, _⟩ := hts.texts
  clear hts
  unfold maxLen at hs2 hn2 ho2 hr2 hm2 ht2
  obtain ⟨wa, hwa⟩ : ∃ wa, wa = w.alloc (.cells #[.slice an ls.length cn, .slice ao l.length co, .slice as0 bs.length cs, .slice ar rs.length cr] 30) := ⟨_, rfl⟩
  have hsz : w.heap.size < wa.heap.size := by rw [hwa]; simp
  have P0 : Hid (Blk4 wa w.heap.size 30 (.slice an ls.length cn) (.slice ao l.length co) (.slice as0 bs.length cs) (.slice ar rs.length cr)) := by rw [hwa]; exact Blk4.new
  have HA : Hid (Below w.heap.size w wa) := by rw [hwa]; exact (Below.refl w.heap.size w).alloc (Nat.le_refl _) _
  have HWA : Hid (w.alloc (.cells #[.slice an ls.length cn, .slice ao l.length co, .slice as0 bs.length cs, .slice ar rs.length cr] 30) = wa) := by rw [hwa]; rfl
  clear hwa
  have HPV : Hid (∀ W, Below w.heap.size w W → PlanV W (.agg #[.slice an ls.length cn, .slice ao l.length co, .slice as0 bs.length cs, .slice ar rs.length cr]) ls l bs rs) := fun W h => HV.out.below h
  have HRV : Hid (∀ W, Below w.heap.size w W → RowR W (.slice am m.length cm) m) := fun W h => HR.out.below h
  have HTV : Hid (∀ W, Below w.heap.size w W → RowV W (.slice at0 ts.length ct) (S ts)) := fun W h => HT.out.below h
  have HGV : Hid (∀ W, Below w.heap.size w W → GraphV W (.agg #[.slice an ls.length cn, .slice ao l.length co]) ls l) := fun W h => by
    obtain ⟨_, _, _, _, he, k1, k2, _, _⟩ := HPV.out W h
    injection he with he
    simp only [Array.mk.injEq, List.cons.injEq, and_true] at he
    obtain ⟨rfl, rfl, _, _⟩ := he
    exact ⟨_, _, rfl, k1, k2⟩
  obtain ⟨g8, hg8⟩ : ∃ g8, goodA8 ls l bs rs m ts = g8 := ⟨_, rfl⟩
  have HRN : Hid (∀ W z d, Below w.heap.size w W → RowV W z (I d) → (∀ x ∈ d, 0 ≤ x ∧ x < (bs.length : Int)) → d.length ≤ 1000 → Calls Tryz.prog 88 #[.agg #[.slice an ls.length cn, .slice ao l.length co, .slice as0 bs.length cs, .slice ar rs.length cr], z] W fun e w' => e = .returned (.int .i64 (runsL bs d : Int)) ∧ Below W.heap.size W w') := fun W z d h1 h2 h3 h4 => runsIn_any ls l bs rs d _ z W (HPV.out W h1) h2 h3 h4
  rcases g8 with _ | _
  · have HE1 : Hid (cutR ls l bs rs m ts = []) := by show _ = _; unfold cutR; rw [hg8]; rfl
    have HE2 : Hid (cutN ls l bs rs m ts = 0) := by show _ = _; unfold cutN; rw [hg8]; rfl
    rw [HE1.out, HE2.out, hg8]
    have HM := Lib.hid (makeWhere_no ls l bs rs m ts an ao as0 ar at0 am cn co cs cr ct cm (.func (.func 97) #[] #[]) (fun _ _ => false) wa (HPV.out wa HA.out) (HRV.out wa HA.out) (HTV.out wa HA.out) hx hxm0 hxt0 hg8)
    obtain ⟨c0, c1, c2, c3⟩ := P0.out.cells
    clear hx hxm0 hxt0 HE1 HE2 hg8
    go_enter Tryz.func39, Tryz.ntmps39
    go_wp2_with fail
    rw [HWA.out]
    refine HM.out.mono ?_
    rintro e w6 ⟨v6, u6, rfl, ho6, hd6, hb6⟩
    have HR6 := Lib.hid ho6
    have HB6 := Lib.hid hb6
    have HW6 := Lib.hid (bth HA.out hb6 (Nat.le_refl _))
    have HR7 := Lib.hid (HRN.out w6 _ _ HW6.out (RowV.of_own hd6) (fun x h => by simp at h) (by simp))
    obtain ⟨q1, q2, rfl⟩ := own_sliceG ho6
    obtain ⟨q3, q4, rfl⟩ := own_slice hd6
    clear hb6 ho6 hd6 c0 c1 c2 c3 HM
    obtain ⟨c0, c1, c2, c3⟩ := (P0.out.below HB6.out hsz).cells
    go_wp2_with fail
    refine HR7.out.mono ?_
    rintro e w7 ⟨rfl, hb7⟩
    have HW7 := Lib.hid (bth HW6.out hb7 (Nat.le_refl _))
    have HR6 := Lib.hid (own_belowG HR6.out hb7)
    clear hb7 c0 c1 c2 c3
    go_wp2_with fail
    go_ret3
    exact ⟨_, rfl, own_baseG HR6.out HA.out.size, HW7.out⟩
  have hE1 : cutR ls l bs rs m ts = (cutP ls l bs rs m ts).1 := by unfold cutR; rw [hg8]; rfl
  have hE2 : cutN ls l bs rs m ts = (runsL bs (cutP ls l bs rs m ts).2 : Int) := by unfold cutN; rw [hg8]; rfl
  rw [hE1, hE2, hg8]
  obtain ⟨hpl, hmb, htb, hsm, hst, _, _⟩ := good8_parts hg8
  have hbl := (plan_parts hpl).2.1
  have hG := (plan_parts hpl).1
  have hDUE : DueV wa (.func (.func 97) #[] #[]) ls l bs rs ts m (cutDue ls bs m) := ⟨97, #[], rfl, enters_of Tryz.func97 (by kernel_rfl) rfl, fun W hW v M y hrem hml hms hy => upset_any ls l bs rs m M ts y v W hrem hpl hml hmb hy⟩
  have HM := Lib.hid (makeWhere_yes ls l bs rs m ts an ao as0 ar at0 am cn co cs cr ct cm (.func (.func 97) #[] #[]) (cutDue ls bs m) wa (HPV.out wa HA.out) (HRV.out wa HA.out) (HTV.out wa HA.out) hx hxm0 hxt0 hg8 hDUE)
  have hAP : cutP ls l bs rs m ts = passM (oneM ls bs rs ts) (cutDue ls bs m) l (m, []) := rfl
  have HDR : Hid (∀ x ∈ (cutP ls l bs rs m ts).2, 0 ≤ x ∧ x < (bs.length : Int)) := fun x h => by
    rcases pass_in _ _ _ _ x h with h1 | h1
    · simp at h1
    · have := hG.tasks x h1; omega
  have HD10 : Hid ((cutP ls l bs rs m ts).2.length ≤ 1000) := by
    have h1 := hG.same
    have h2 := hG.high
    show (cutP ls l bs rs m ts).2.length ≤ 1000
    rw [hAP]
    refine Nat.le_trans (pass_made _ _ _ _) ?_
    simp only [List.length_nil]
    omega
  rw [← hAP] at HM
  obtain ⟨P, hP⟩ : ∃ P, cutP ls l bs rs m ts = P := ⟨_, rfl⟩
  rw [hP] at HM HDR HD10 ⊢
  obtain ⟨R, D⟩ := P
  simp only at HM HDR HD10 ⊢
  obtain ⟨c0, c1, c2, c3⟩ := P0.out.cells
  clear hx hxm0 hxt0 hE1 hE2 hg8 hpl hmb htb hsm hst hbl hG hDUE hAP hP
  go_enter Tryz.func39, Tryz.ntmps39
  go_wp2_with fail
  rw [HWA.out]
  refine HM.out.mono ?_
  rintro e w6 ⟨v6, u6, rfl, ho6, hd6, hb6⟩
  have HR6 := Lib.hid ho6
  have HB6 := Lib.hid hb6
  have HW6 := Lib.hid (bth HA.out hb6 (Nat.le_refl _))
  have HR7 := Lib.hid (HRN.out w6 _ _ HW6.out (RowV.of_own hd6) HDR.out HD10.out)
  obtain ⟨q1, q2, rfl⟩ := own_sliceG ho6
  obtain ⟨q3, q4, rfl⟩ := own_slice hd6
  clear hb6 ho6 hd6 c0 c1 c2 c3 HM
  obtain ⟨c0, c1, c2, c3⟩ := (P0.out.below HB6.out hsz).cells
  go_wp2_with fail
  refine HR7.out.mono ?_
  rintro e w7 ⟨rfl, hb7⟩
  have HW7 := Lib.hid (bth HW6.out hb7 (Nat.le_refl _))
  have HR6 := Lib.hid (own_belowG HR6.out hb7)
  clear hb7 c0 c1 c2 c3
  go_wp2_with fail
  go_ret3
  exact ⟨_, rfl, own_baseG HR6.out HA.out.size, HW7.out⟩

end Go.Proofs.YtngldlconipnnaaGreatDoor
