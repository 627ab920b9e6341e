/- Texts of one claim, joined in their order. -/
import Derived.Deep.CutBlock
import Derived.Test.YtgolhfmmlanmlaaGreatDoorM14

/- Walks: what is stale, of the reference. -/
namespace Go.Proofs.YtgolhfmmlanmlaaGreatDoor
open Go.RowKit Pth

/-- Plans, results and bodies as said. -/
noncomputable def goodA8 (ls : List (List Int)) (l : List Int) (bs : List Bool) (rs : List (List OpT)) (m : List ResT) (ts : List (List UInt8)) : Bool := bothA ls l bs rs m && srcA ls l bs rs ts
theorem good8_parts {ls : List (List Int)} {l : List Int} {bs : List Bool} {rs : List (List OpT)} {m : List ResT} {ts : List (List UInt8)} (h : goodA8 ls l bs rs m ts = true) :
    planA ls l bs rs = true ∧ m.length = bs.length ∧ ts.length = bs.length ∧ Sml m ∧ (∀ y ∈ ts, y.length ≤ 40) ∧ srcA ls l bs rs ts = true ∧ bothA ls l bs rs m = true := by
  unfold goodA8 at h
  rw [Bool.and_eq_true] at h
  obtain ⟨h1, h2, h3⟩ := both_parts h.1
  exact ⟨h1, h3, (src_parts h.2).2.1, res_len h2, src_len h.2, h.2, h.1⟩
/-- Those ahead of one that are not what they would be. -/
def staleK (one : List ResT → Nat → ResT) (m : List ResT) (k : Nat) : List Int := ((List.range k).filter (fun j => decide (one m j ≠ m.getD j noRes))).map (fun j : Nat => (j : Int))
theorem staleK_all (one : List ResT → Nat → ResT) (m : List ResT) : staleK one m m.length = staleL one m := rfl
theorem staleK_len (one : List ResT → Nat → ResT) (m : List ResT) (k : Nat) : (staleK one m k).length ≤ k := by
  unfold staleK; rw [List.length_map]; exact Nat.le_trans (List.length_filter_le _ _) (by simp)
theorem staleK_yes {one : List ResT → Nat → ResT} {m : List ResT} {k : Nat} (hk : k < m.length) (h : one m k ≠ m[k]) : staleK one m (k + 1) = staleK one m k ++ [(k : Int)] := by
  unfold staleK
  have e : decide (one m k ≠ m.getD k noRes) = true := by rw [getD_at _ hk]; simpa using h
  rw [List.range_succ, List.filter_append, List.map_append, List.filter_cons, e]
  rfl
theorem staleK_no {one : List ResT → Nat → ResT} {m : List ResT} {k : Nat} (hk : k < m.length) (h : one m k = m[k]) : staleK one m (k + 1) = staleK one m k := by
  unfold staleK
  have e : decide (one m k ≠ m.getD k noRes) = false := by rw [getD_at _ hk]; simpa using h
  rw [List.range_succ, List.filter_append, List.map_append, List.filter_cons, e]
  simp
noncomputable def staleA (ls : List (List Int)) (l : List Int) (bs : List Bool) (rs : List (List OpT)) (m : List ResT) (ts : List (List UInt8)) : List Int :=
  if goodA8 ls l bs rs m ts then staleL (oneM ls bs rs ts) m else []
theorem stale_short (ls : List (List Int)) (l : List Int) (bs : List Bool) (rs : List (List OpT)) (m : List ResT) (ts : List (List UInt8)) : (staleA ls l bs rs m ts).length ≤ 1000000 := by
  unfold staleA
  split
  · rename_i h
    obtain ⟨h1, h2, _⟩ := good8_parts h
    have h3 := (plan_parts h1).2.1
    have h4 := (plan_parts h1).1.high
    have := staleK_len (oneM ls bs rs ts) m m.length
    rw [staleK_all] at this
    omega
  · simp

set_option maxRecDepth 20000 in
set_option maxHeartbeats 8000000 in
theorem specGood8_b {ls : List (List Int)} {l : List Int} {bs : List Bool} {rs : List (List OpT)} {m : List ResT} {ts : List (List UInt8)} {b : Bool} (h : goodA8 ls l bs rs m ts = b) (v u x : Value) (w : World) (hp : PlanV w v ls l bs rs) (hr : RowR w u m) (hts : RowV w x (S ts)) (hx : ∀ l ∈ rs, ∀ f ∈ l, f.2.2.length ≤ maxLen) (hxm : ∀ f ∈ m, f.1.length ≤ maxLen) (hxt : ∀ x ∈ ts, x.length ≤ maxLen) :
    Calls Tryz.prog 63 #[v, u, x] w (BoolPost b w) := by
  have HV := Lib.hid hp
  obtain ⟨nv, ov, sv, rv, rfl, h1, h2, h3, h4⟩ := hp
  obtain ⟨as0, cs, rfl, hs1, hs2, _⟩ := h3.boolsW
  obtain ⟨an, cn, rfl, hn1, hn2, _⟩ := h1.lists
  obtain ⟨ao, co, rfl, ho1, ho2, _⟩ := h2.ints
  obtain ⟨ar, cr, rfl, hr1, hr2, _⟩ := h4.lists
  clear h1 h2 h3 h4
  have HR := Lib.hid hr
  obtain ⟨am, cm, rfl, hm1, hm2, _⟩ := hr.res
  clear hr
  have HT := Lib.hid hts
  obtain ⟨at0, ct, rfl, ht1, ht2, _⟩ := hts.texts
  clear hts
  unfold maxLen at hs2 hn2 ho2 hr2 hm2 ht2
  obtain ⟨wa, hwa⟩ : ∃ wa, wa = w.alloc (.cells #[.slice an ls.length cn, .slice ao l.length co, .slice as0 bs.length cs, .slice ar rs.length cr] 42) := ⟨_, rfl⟩
  have hsz : w.heap.size < wa.heap.size := by rw [hwa]; simp
  have P0 : Hid (Blk4 wa w.heap.size 42 (.slice an ls.length cn) (.slice ao l.length co) (.slice as0 bs.length cs) (.slice ar rs.length cr)) := by rw [hwa]; exact Blk4.new
  have HA : Hid (Below w.heap.size w wa) := by rw [hwa]; exact (Below.refl w.heap.size w).alloc (Nat.le_refl _) _
  have HWA : Hid (w.alloc (.cells #[.slice an ls.length cn, .slice ao l.length co, .slice as0 bs.length cs, .slice ar rs.length cr] 42) = wa) := by rw [hwa]; rfl
  clear hwa
  obtain ⟨a, ha⟩ : ∃ a, bothA ls l bs rs m = a := ⟨_, rfl⟩
  obtain ⟨c, hc⟩ : ∃ c, srcA ls l bs rs ts = c := ⟨_, rfl⟩
  have HB : Hid (b = (a && c)) := by show _ = _; rw [← h]; unfold goodA8; rw [ha, hc]
  have HC := Lib.hid (specBoth_b ha _ _ wa (HV.out.below HA.out) (HR.out.below HA.out) hx hxm)
  have HS := Lib.hid (fun W (hb : Below w.heap.size w W) => specSrc_any ls l bs rs ts _ _ W (HV.out.below hb) (HT.out.below hb) hx hxt)
  rw [hc] at HS
  obtain ⟨c0, c1, c2, c3⟩ := P0.out.cells
  clear h ha hc hx hxm hxt
  go_enter Tryz.func63, Tryz.ntmps63
  go_wp2_with fail
  rw [HWA.out]
  refine HC.out.mono ?_
  rintro e w1 ⟨rfl, hb1⟩
  have HB1 := Lib.hid hb1
  have HW1 := Lib.hid (bth HA.out hb1 (Nat.le_refl _))
  clear hb1 c0 c1 c2 c3 HC
  rcases a with _ | _
  · go_wp2_with fail
    go_ret
    exact ⟨by rw [HB.out] <;> rfl, HW1.out⟩
  · obtain ⟨c0, c1, c2, c3⟩ := (P0.out.below HB1.out hsz).cells
    go_wp2_with fail
    refine (HS.out w1 HW1.out).mono ?_
    rintro e w2 ⟨rfl, hb2⟩
    have HW2 := Lib.hid (bth HW1.out hb2 (Nat.le_refl _))
    clear hb2 c0 c1 c2 c3
    go_wp2_with fail
    go_ret
    exact ⟨by rw [HB.out] <;> rfl, HW2.out⟩

set_option maxRecDepth 20000 in
set_option maxHeartbeats 8000000 in
theorem specStale_any (ls : List (List Int)) (l : List Int) (bs : List Bool) (rs : List (List OpT)) (m : List ResT) (ts : List (List UInt8)) (v u x : Value) (w : World) (hp : PlanV w v ls l bs rs) (hr : RowR w u m) (hts : RowV w x (S ts)) (hpl : planA ls l bs rs = true) (hmb : m.length = bs.length) (htb : ts.length = bs.length) (hxm : Sml m) (hxt : ∀ y ∈ ts, y.length ≤ 40) :
    Calls Tryz.prog 64 #[v, u, x] w (IntsPost w.heap.size (staleL (oneM ls bs rs ts) m) w) := by
  have hbl := (plan_parts hpl).2.1
  have hhi := (plan_parts hpl).1.high
  have HV := Lib.hid hp
  obtain ⟨nv, ov, sv, rv, rfl, h1, h2, h3, h4⟩ := hp
  obtain ⟨as0, cs, rfl, hs1, hs2, _⟩ := h3.boolsW
  obtain ⟨an, cn, rfl, hn1, hn2, _⟩ := h1.lists
  obtain ⟨ao, co, rfl, ho1, ho2, _⟩ := h2.ints
  obtain ⟨ar, cr, rfl, hr1, hr2, _⟩ := h4.lists
  clear h1 h2 h3 h4
  have HR := Lib.hid hr
  obtain ⟨am, cm, rfl, hm1, hm2, hatm⟩ := hr.res
  clear hr
  have HT := Lib.hid hts
  obtain ⟨at0, ct, rfl, ht1, ht2, _⟩ := hts.texts
  clear hts
  unfold maxLen at hs2 hn2 ho2 hr2 hm2 ht2
  obtain ⟨wa, hwa⟩ : ∃ wa, wa = w.alloc (.cells #[.slice an ls.length cn, .slice ao l.length co, .slice as0 bs.length cs, .slice ar rs.length cr] 42) := ⟨_, rfl⟩
  have hsz : w.heap.size < wa.heap.size := by rw [hwa]; simp
  have P0 : Hid (Blk4 wa w.heap.size 42 (.slice an ls.length cn) (.slice ao l.length co) (.slice as0 bs.length cs) (.slice ar rs.length cr)) := by rw [hwa]; exact Blk4.new
  have HA : Hid (Below w.heap.size w wa) := by rw [hwa]; exact (Below.refl w.heap.size w).alloc (Nat.le_refl _) _
  have HWA : Hid (w.alloc (.cells #[.slice an ls.length cn, .slice ao l.length co, .slice as0 bs.length cs, .slice ar rs.length cr] 42) = wa) := by rw [hwa]; rfl
  clear hwa
  have HATM := Lib.hid hatm
  have HO : Hid (∀ W (y : Nat), Below w.heap.size w W → y < m.length → Calls Tryz.prog 96 #[.agg #[.slice an ls.length cn, .slice ao l.length co, .slice as0 bs.length cs, .slice ar rs.length cr], .slice am m.length cm, .slice at0 ts.length ct, .int .i64 (y : Int)] W fun e w' => e = .returned (resV (oneM ls bs rs ts m y)) ∧ Below W.heap.size W w') := fun W y h1 h2 => specOne_any ls l bs rs m ts y _ _ _ W (HV.out.below h1) (HR.out.below h1) (HT.out.below h1) hpl hmb htb (by omega) hxm hxt
  have hm10 : m.length ≤ 10 := by omega
  have HEND := Lib.hid (staleK_all (oneM ls bs rs ts) m)
  rw [← HEND.out]
  obtain ⟨one, hone⟩ : ∃ one, one = oneM ls bs rs ts := ⟨_, rfl⟩
  rw [← hone] at HO HEND ⊢
  obtain ⟨c0, c1, c2, c3⟩ := P0.out.cells
  clear hatm hpl hmb htb hxm hxt hone hbl hhi
  go_enter Tryz.func64, Tryz.ntmps64
  go_wp2_with fail
  rw [HWA.out]
  clear c0 c1 c2 c3
  go_loopw [7, 11] (fun q i wr => ∃ k : Nat, k ≤ m.length ∧ i = .int .i64 k ∧ Hid (Below wa.heap.size wa wr) ∧ Hid (wr.ownsRow wa.heap.size 3 1 q (staleK one m k).length (I (staleK one m k)))) (fun _ i _ => m.length - (intOf i).toNat)
  case atStart => exact ⟨0, Nat.zero_le _, rfl, Below.refl _ _, none_own _ _ _⟩
  case round =>
    obtain ⟨k, hk, rfl, HB, HN⟩ := hrel
    have HBW := Lib.hid (bth HA.out HB.out (Nat.le_refl _))
    have hkl := staleK_len one m k
    by_cases hlt : k < m.length
    · obtain ⟨g2, o2, rfl, hg2, hm1', hm2'⟩ := HATM.out k hlt
      have s1 := (HBW.out.cell (p := ⟨g2, o2 + k * 2, none⟩) hg2).trans hm1'
      have s2 := (HBW.out.cell (p := ⟨g2, o2 + k * 2 + 1, none⟩) hg2).trans hm2'
      have hkz : (k : Int) < (m.length : Int) := by omega
      have hkb : (0 : Int) ≤ (k : Int) := by omega
      have hszr : wa.heap.size ≤ wr.heap.size := HB.out.size
      have hltp : w.heap.size < wr.heap.size := by omega
      have hltg : g2 < wr.heap.size := by omega
      have HCK := Lib.hid (fun W (h : Below w.heap.size w W) => HO.out W k h hlt)
      have HY := Lib.hid (fun h => staleK_yes (one := one) hlt h)
      have HNO := Lib.hid (fun h => staleK_no (one := one) hlt h)
      clear hm1' hm2' HATM HO
      generalize m[k] = q at *
      generalize one m k = R at *
      generalize staleK one m k = acc at *
      obtain ⟨q1, q2⟩ := q
      obtain ⟨r1, r2⟩ := R
      simp only at s1 s2
      unfold resV at HCK
      simp only at HCK
      have PD : Hid (Blk4 wr.drew w.heap.size 42 (.slice an ls.length cn) (.slice ao l.length co) (.slice as0 bs.length cs) (.slice ar rs.length cr)) := P0.out.below (Below.drew HB.out) hsz
      have SD : Hid (wr.drew.cell? ⟨g2, o2 + k * 2, none⟩ = some (.string ⟨q1.toArray⟩) ∧ wr.drew.cell? ⟨g2, o2 + k * 2 + 1, none⟩ = some (.int .i64 q2)) := ⟨s1, s2⟩
      have HBD := Lib.hid (Below.drew HBW.out)
      have HND : Hid (wr.drew.ownsRow wa.heap.size 3 1 _ acc.length (I acc)) := own_below HN.out (Below.drew (Below.refl _ _))
      have hIl : (I acc).length ≤ 1000000 := by rw [I_len]; omega
      have ks := And.intro PD.out.cells SD.out
      clear s1 s2
      by_cases he1 : r1 = q1
      · by_cases he2 : r2 = q2
        · subst he1 he2
          have HE := Lib.hid (HNO.out rfl)
          go_wp2_with fail
          go_region_held3 (fun w' => (w'.cell? ⟨w.heap.size, 0, none⟩ = some (.slice an ls.length cn) ∧ w'.cell? ⟨w.heap.size, 1, none⟩ = some (.slice ao l.length co) ∧ w'.cell? ⟨w.heap.size, 2, none⟩ = some (.slice as0 bs.length cs) ∧ w'.cell? ⟨w.heap.size, 3, none⟩ = some (.slice ar rs.length cr)) ∧ (w'.cell? ⟨g2, o2 + k * 2, none⟩ = some (.string ⟨r1.toArray⟩) ∧ w'.cell? ⟨g2, o2 + k * 2 + 1, none⟩ = some (.int .i64 r2))) (first | exact ks)
            (first
              | (go_at_call 96; refine (HCK.out _ (by exact HBD.out)).mono ?_; rintro e w8 ⟨rfl, hb8⟩
                 have ks := And.intro (PD.out.below hb8 hltp).cells (And.intro ((hb8.cell (p := ⟨g2, o2 + k * 2, none⟩) hltg).trans SD.out.1) ((hb8.cell (p := ⟨g2, o2 + k * 2 + 1, none⟩) hltg).trans SD.out.2))
                 have C8 := Lib.hid hb8
                 clear hb8))
          all_goals
            have HB8 := Lib.hid (Below.drew HB.out |>.trans (C8.out.mono hszr))
            have HN8 := Lib.hid (own_below HND.out C8.out)
            clear ks
            go_wp2_with fail
            go_roundw
            case rel => exact ⟨k + 1, by omega, by go_num, HB8, by rw [HE.out]; exact HN8.out⟩
            case measure => simp [intOf]; omega
        · subst he1
          have HE := Lib.hid (HY.out (by simp [he2]))
          go_wp2_with fail
          go_region_held3 (fun w' => (w'.cell? ⟨w.heap.size, 0, none⟩ = some (.slice an ls.length cn) ∧ w'.cell? ⟨w.heap.size, 1, none⟩ = some (.slice ao l.length co) ∧ w'.cell? ⟨w.heap.size, 2, none⟩ = some (.slice as0 bs.length cs) ∧ w'.cell? ⟨w.heap.size, 3, none⟩ = some (.slice ar rs.length cr)) ∧ (w'.cell? ⟨g2, o2 + k * 2, none⟩ = some (.string ⟨r1.toArray⟩) ∧ w'.cell? ⟨g2, o2 + k * 2 + 1, none⟩ = some (.int .i64 q2))) (first | exact ks)
            (first
              | (go_at_call 96; refine (HCK.out _ (by exact HBD.out)).mono ?_; rintro e w8 ⟨rfl, hb8⟩
                 have ks := And.intro (PD.out.below hb8 hltp).cells (And.intro ((hb8.cell (p := ⟨g2, o2 + k * 2, none⟩) hltg).trans SD.out.1) ((hb8.cell (p := ⟨g2, o2 + k * 2 + 1, none⟩) hltg).trans SD.out.2))
                 have C8 := Lib.hid hb8
                 clear hb8))
          all_goals
            have HB8 := Lib.hid (Below.drew HB.out |>.trans (C8.out.mono hszr))
            have HN8 := Lib.hid (own_below HND.out C8.out)
            have hs8 : wa.heap.size ≤ w8.heap.size := HB8.out.size
            clear ks
            go_wp2_with (at_builtin; refine wpAppOne elemI rfl _ _ rfl wa.heap.size _ (I acc) rfl (by rw [I_len]; exact HN8.out) _ rfl (by simp) rfl hIl hs8 ?_; intro v7 w7 hown7 hg7; have HN7 := Lib.hid (own_I2 hown7); have HB7 := Lib.hid (HB8.out.trans (below_own HN8.out hg7 hs8)); clear hown7 hg7)
            go_roundw
            case rel => exact ⟨k + 1, by omega, by go_num, HB7, by rw [HE.out]; exact HN7.out⟩
            case measure => simp [intOf]; omega
      · have HE := Lib.hid (HY.out (by simp [he1]))
        go_wp2_with fail
        go_region_held3 (fun w' => (w'.cell? ⟨w.heap.size, 0, none⟩ = some (.slice an ls.length cn) ∧ w'.cell? ⟨w.heap.size, 1, none⟩ = some (.slice ao l.length co) ∧ w'.cell? ⟨w.heap.size, 2, none⟩ = some (.slice as0 bs.length cs) ∧ w'.cell? ⟨w.heap.size, 3, none⟩ = some (.slice ar rs.length cr)) ∧ (w'.cell? ⟨g2, o2 + k * 2, none⟩ = some (.string ⟨q1.toArray⟩) ∧ w'.cell? ⟨g2, o2 + k * 2 + 1, none⟩ = some (.int .i64 q2))) (first | exact ks)
          (first
            | (go_at_call 96; refine (HCK.out _ (by exact HBD.out)).mono ?_; rintro e w8 ⟨rfl, hb8⟩
               have ks := And.intro (PD.out.below hb8 hltp).cells (And.intro ((hb8.cell (p := ⟨g2, o2 + k * 2, none⟩) hltg).trans SD.out.1) ((hb8.cell (p := ⟨g2, o2 + k * 2 + 1, none⟩) hltg).trans SD.out.2))
               have C8 := Lib.hid hb8
               clear hb8))
        all_goals
          have HB8 := Lib.hid (Below.drew HB.out |>.trans (C8.out.mono hszr))
          have HN8 := Lib.hid (own_below HND.out C8.out)
          have hs8 : wa.heap.size ≤ w8.heap.size := HB8.out.size
          clear ks
          go_wp2_with (at_builtin; refine wpAppOne elemI rfl _ _ rfl wa.heap.size _ (I acc) rfl (by rw [I_len]; exact HN8.out) _ rfl (by simp) rfl hIl hs8 ?_; intro v7 w7 hown7 hg7; have HN7 := Lib.hid (own_I2 hown7); have HB7 := Lib.hid (HB8.out.trans (below_own HN8.out hg7 hs8)); clear hown7 hg7)
          go_roundw
          case rel => exact ⟨k + 1, by omega, by go_num, HB7, by rw [HE.out]; exact HN7.out⟩
          case measure => simp [intOf]; omega
    · obtain rfl : k = m.length := by omega
      clear HATM HO
      go_wp2_with fail
      go_ret
      exact ⟨_, rfl, own_base HN.out HA.out.size, HBW.out⟩

set_option maxRecDepth 20000 in
set_option maxHeartbeats 8000000 in
theorem specStaleIn_any (ls : List (List Int)) (l : List Int) (bs : List Bool) (rs : List (List OpT)) (m : List ResT) (ts : List (List UInt8)) (v u x : Value) (w : World) (hp : PlanV w v ls l bs rs) (hr : RowR w u m) (hts : RowV w x (S ts)) (hx : ∀ l ∈ rs, ∀ f ∈ l, f.2.2.length ≤ maxLen) (hxm0 : ∀ f ∈ m, f.1.length ≤ maxLen) (hxt0 : ∀ x ∈ ts, x.length ≤ maxLen) :
    Calls Tryz.prog 25 #[v, u, x] w (NumsOk (staleA ls l bs rs m ts) (goodA8 ls l bs rs m ts) w) := by
  have HV := Lib.hid hp
  obtain ⟨nv, ov, sv, rv, rfl, h1, h2, h3, h4⟩ := hp
  obtain ⟨as0, cs, rfl, hs1, hs2, _⟩ := h3.boolsW
  obtain ⟨an, cn, rfl, hn1, hn2, _⟩ := h1.lists
  obtain ⟨ao, co, rfl, ho1, ho2, _⟩ := h2.ints
  obtain ⟨ar, cr, rfl, hr1, hr2, _⟩ := h4.lists
  clear h1 h2 h3 h4
  have HR := Lib.hid hr
  obtain ⟨am, cm, rfl, hm1, hm2, _⟩ := hr.res
  clear hr
  have HT := Lib.hid hts
  obtain ⟨at0, ct, rfl, ht1, ht2, _⟩ := hts.texts
  clear hts
  unfold maxLen at hs2 hn2 ho2 hr2 hm2 ht2
  obtain ⟨wa, hwa⟩ : ∃ wa, wa = w.alloc (.cells #[.slice an ls.length cn, .slice ao l.length co, .slice as0 bs.length cs, .slice ar rs.length cr] 42) := ⟨_, rfl⟩
  have hsz : w.heap.size < wa.heap.size := by rw [hwa]; simp
  have P0 : Hid (Blk4 wa w.heap.size 42 (.slice an ls.length cn) (.slice ao l.length co) (.slice as0 bs.length cs) (.slice ar rs.length cr)) := by rw [hwa]; exact Blk4.new
  have HA : Hid (Below w.heap.size w wa) := by rw [hwa]; exact (Below.refl w.heap.size w).alloc (Nat.le_refl _) _
  have HWA : Hid (w.alloc (.cells #[.slice an ls.length cn, .slice ao l.length co, .slice as0 bs.length cs, .slice ar rs.length cr] 42) = wa) := by rw [hwa]; rfl
  clear hwa
  obtain ⟨b, hb⟩ : ∃ b, goodA8 ls l bs rs m ts = b := ⟨_, rfl⟩
  have HC := Lib.hid (specGood8_b hb _ _ _ wa (HV.out.below HA.out) (HR.out.below HA.out) (HT.out.below HA.out) hx hxm0 hxt0)
  obtain ⟨R, hR⟩ : ∃ R, staleA ls l bs rs m ts = R := ⟨_, rfl⟩
  have HR0 : Hid (b = false → R = []) := fun h => by rw [← hR]; unfold staleA; rw [hb, h]; rfl
  have HR1 : Hid (b = true → R = staleL (oneM ls bs rs ts) m) := fun h => by rw [← hR]; unfold staleA; rw [hb, h]; rfl
  have HS := Lib.hid (fun W (h : Below w.heap.size w W) (hs : b = true) => by
    obtain ⟨k1, k2, k3, k4, k5, _⟩ := good8_parts (hb.trans hs)
    exact specStale_any ls l bs rs m ts _ _ _ W (HV.out.below h) (HR.out.below h) (HT.out.below h) k1 k2 k3 k4 k5)
  rw [hR, hb]
  obtain ⟨c0, c1, c2, c3⟩ := P0.out.cells
  clear hb hR hx hxm0 hxt0
  rcases b with _ | _
  · have HE := Lib.hid (HR0.out rfl)
    clear HS HR0 HR1
    go_enter Tryz.func25, Tryz.ntmps25
    go_wp2_with fail
    rw [HWA.out]
    refine HC.out.mono ?_
    rintro e w1 ⟨rfl, hb1⟩
    have HW1 := Lib.hid (bth HA.out hb1 (Nat.le_refl _))
    clear hb1 c0 c1 c2 c3 HC
    go_wp2_with fail
    go_ret2
    exact ⟨_, rfl, by rw [HE.out]; exact none_own _ _ _, HW1.out⟩
  · have HE := Lib.hid (HR1.out rfl)
    have HS1 := Lib.hid (fun W (h : Below w.heap.size w W) => HS.out W h rfl)
    clear HR0 HR1 HS
    go_enter Tryz.func25, Tryz.ntmps25
    go_wp2_with fail
    rw [HWA.out]
    refine HC.out.mono ?_
    rintro e w1 ⟨rfl, hb1⟩
    have HB1 := Lib.hid hb1
    have HW1 := Lib.hid (bth HA.out hb1 (Nat.le_refl _))
    clear hb1 c0 c1 c2 c3 HC
    obtain ⟨c0, c1, c2, c3⟩ := (P0.out.below HB1.out hsz).cells
    go_wp2_with fail
    refine (HS1.out w1 HW1.out).mono ?_
    rintro e w2 ⟨v2, rfl, ho2, hb2⟩
    have HO2 := Lib.hid ho2
    have HW2 := Lib.hid (bth HW1.out hb2 (Nat.le_refl _))
    have hs1 := HW1.out.size
    obtain ⟨q1, q2, rfl⟩ := own_slice ho2
    clear hb2 ho2 c0 c1 c2 c3
    go_wp2_with fail
    go_ret2
    exact ⟨_, rfl, by rw [HE.out]; exact own_base HO2.out hs1, HW2.out⟩

set_option maxRecDepth 20000 in
set_option maxHeartbeats 8000000 in
theorem specIsBuilt_any (ls : List (List Int)) (l : List Int) (bs : List Bool) (rs : List (List OpT)) (m : List ResT) (ts : List (List UInt8)) (v u x : Value) (w : World) (hp : PlanV w v ls l bs rs) (hr : RowR w u m) (hts : RowV w x (S ts)) (hx : ∀ l ∈ rs, ∀ f ∈ l, f.2.2.length ≤ maxLen) (hxm0 : ∀ f ∈ m, f.1.length ≤ maxLen) (hxt0 : ∀ x ∈ ts, x.length ≤ maxLen) :
    Calls Tryz.prog 31 #[v, u, x] w (fun e w' => e = .returned (.tuple #[.bool (goodA8 ls l bs rs m ts && decide ((staleA ls l bs rs m ts).length = 0)), .bool (goodA8 ls l bs rs m ts)]) ∧ Below w.heap.size w w') := by
  have HV := Lib.hid hp
  obtain ⟨nv, ov, sv, rv, rfl, h1, h2, h3, h4⟩ := hp
  obtain ⟨as0, cs, rfl, hs1, hs2, _⟩ := h3.boolsW
  obtain ⟨an, cn, rfl, hn1, hn2, _⟩ := h1.lists
  obtain ⟨ao, co, rfl, ho1, ho2, _⟩ := h2.ints
  obtain ⟨ar, cr, rfl, hr1, hr2, _⟩ := h4.lists
  clear h1 h2 h3 h4
  have HR := Lib.hid hr
  obtain ⟨am, cm, rfl, hm1, hm2, _⟩ := hr.res
  clear hr
  have HT := Lib.hid hts
  obtain ⟨at0, ct, rfl, ht1, ht2, _⟩ := hts.texts
  clear hts
  unfold maxLen at hs2 hn2 ho2 hr2 hm2 ht2
  obtain ⟨wa, hwa⟩ : ∃ wa, wa = w.alloc (.cells #[.slice an ls.length cn, .slice ao l.length co, .slice as0 bs.length cs, .slice ar rs.length cr] 42) := ⟨_, rfl⟩
  have hsz : w.heap.size < wa.heap.size := by rw [hwa]; simp
  have P0 : Hid (Blk4 wa w.heap.size 42 (.slice an ls.length cn) (.slice ao l.length co) (.slice as0 bs.length cs) (.slice ar rs.length cr)) := by rw [hwa]; exact Blk4.new
  have HA : Hid (Below w.heap.size w wa) := by rw [hwa]; exact (Below.refl w.heap.size w).alloc (Nat.le_refl _) _
  have HWA : Hid (w.alloc (.cells #[.slice an ls.length cn, .slice ao l.length co, .slice as0 bs.length cs, .slice ar rs.length cr] 42) = wa) := by rw [hwa]; rfl
  clear hwa
  obtain ⟨b, hb⟩ : ∃ b, goodA8 ls l bs rs m ts = b := ⟨_, rfl⟩
  have HC := Lib.hid (specGood8_b hb _ _ _ wa (HV.out.below HA.out) (HR.out.below HA.out) (HT.out.below HA.out) hx hxm0 hxt0)
  obtain ⟨R, hR⟩ : ∃ R, staleA ls l bs rs m ts = R := ⟨_, rfl⟩
  have HR0 : Hid (b = false → R = []) := fun h => by rw [← hR]; unfold staleA; rw [hb, h]; rfl
  have HR1 : Hid (b = true → R = staleL (oneM ls bs rs ts) m) := fun h => by rw [← hR]; unfold staleA; rw [hb, h]; rfl
  have HS := Lib.hid (fun W (h : Below w.heap.size w W) (hs : b = true) => by
    obtain ⟨k1, k2, k3, k4, k5, _⟩ := good8_parts (hb.trans hs)
    exact specStale_any ls l bs rs m ts _ _ _ W (HV.out.below h) (HR.out.below h) (HT.out.below h) k1 k2 k3 k4 k5)
  rw [hR, hb]
  obtain ⟨c0, c1, c2, c3⟩ := P0.out.cells
  clear hb hR hx hxm0 hxt0
  rcases b with _ | _
  · have HE := Lib.hid (HR0.out rfl)
    clear HS HR0 HR1
    go_enter Tryz.func31, Tryz.ntmps31
    go_wp2_with fail
    rw [HWA.out]
    refine HC.out.mono ?_
    rintro e w1 ⟨rfl, hb1⟩
    have HW1 := Lib.hid (bth HA.out hb1 (Nat.le_refl _))
    clear hb1 c0 c1 c2 c3 HC
    go_wp2_with fail
    go_ret2
    exact ⟨rfl, HW1.out⟩
  · have HE := Lib.hid (HR1.out rfl)
    have HS1 := Lib.hid (fun W (h : Below w.heap.size w W) => HS.out W h rfl)
    clear HR0 HR1 HS
    go_enter Tryz.func31, Tryz.ntmps31
    go_wp2_with fail
    rw [HWA.out]
    refine HC.out.mono ?_
    rintro e w1 ⟨rfl, hb1⟩
    have HB1 := Lib.hid hb1
    have HW1 := Lib.hid (bth HA.out hb1 (Nat.le_refl _))
    clear hb1 c0 c1 c2 c3 HC
    obtain ⟨c0, c1, c2, c3⟩ := (P0.out.below HB1.out hsz).cells
    go_wp2_with fail
    refine (HS1.out w1 HW1.out).mono ?_
    rintro e w2 ⟨v2, rfl, ho2, hb2⟩
    have HO2 := Lib.hid ho2
    have HW2 := Lib.hid (bth HW1.out hb2 (Nat.le_refl _))
    have hs1 := HW1.out.size
    obtain ⟨q1, q2, rfl⟩ := own_slice ho2
    clear hb2 ho2 c0 c1 c2 c3
    go_wp2_with fail
    go_ret2
    exact ⟨by rw [HE.out]; generalize staleL (oneM ls bs rs ts) m = L; cases L with | nil => rfl | cons a t => simp; omega, HW2.out⟩

end Go.Proofs.YtgolhfmmlanmlaaGreatDoor

/- Walks: results on their way, of the program. -/
namespace Go.Proofs.YtgolhfmmlanmlaaGreatDoor
open Go.RowKit Pth

/-- A block of seven cells. -/
def Blk7 (w : World) (b t : Nat) (x0 x1 x2 x3 x4 x5 x6 : Value) : Prop := w.heap[b]? = some (.cells #[x0, x1, x2, x3, x4, x5, x6] t (0, 0))
theorem Blk7.cells {w : World} {b t : Nat} {x0 x1 x2 x3 x4 x5 x6 : Value} (h : Blk7 w b t x0 x1 x2 x3 x4 x5 x6) : w.cell? ⟨b, 0, none⟩ = some x0 ∧ w.cell? ⟨b, 1, none⟩ = some x1 ∧ w.cell? ⟨b, 2, none⟩ = some x2 ∧ w.cell? ⟨b, 3, none⟩ = some x3 ∧ w.cell? ⟨b, 4, none⟩ = some x4 ∧ w.cell? ⟨b, 5, none⟩ = some x5 ∧ w.cell? ⟨b, 6, none⟩ = some x6 := by
  refine ⟨?_, ?_, ?_, ?_, ?_, ?_, ?_⟩ <;> rw [cell_of_row w b _ _ t (0, 0) h] <;> rfl
theorem Blk7.soft {w : World} {b t : Nat} {x0 x1 x2 x3 x4 x5 x6 : Value} (h : Blk7 w b t x0 x1 x2 x3 x4 x5 x6) (j : Nat) : w.frozen? ⟨b, j, none⟩ = false := frozen_of_row w b j _ t h
theorem Blk7.below {w w' : World} {B b t : Nat} {x0 x1 x2 x3 x4 x5 x6 : Value} (h : Blk7 w b t x0 x1 x2 x3 x4 x5 x6) (hb : Below B w w') (hlt : b < B) : Blk7 w' b t x0 x1 x2 x3 x4 x5 x6 := (hb.block b hlt).trans h
theorem Blk7.new {w : World} {t : Nat} {x0 x1 x2 x3 x4 x5 x6 : Value} : Blk7 (w.alloc (.cells #[x0, x1, x2, x3, x4, x5, x6] t)) w.heap.size t x0 x1 x2 x3 x4 x5 x6 := heap_alloc_new w _
theorem Blk7.old {w : World} {b t : Nat} {x0 x1 x2 x3 x4 x5 x6 : Value} (h : Blk7 w b t x0 x1 x2 x3 x4 x5 x6) (o : Obj) : Blk7 (w.alloc o) b t x0 x1 x2 x3 x4 x5 x6 := (Below.heap_alloc w o b (lt_of_block h)).trans h
theorem Blk7.other {w : World} {b t : Nat} {x0 x1 x2 x3 x4 x5 x6 : Value} (h : Blk7 w b t x0 x1 x2 x3 x4 x5 x6) {p : Addr} (hp : b ≠ p.block) (n : Value) : Blk7 (w.setCell p n) b t x0 x1 x2 x3 x4 x5 x6 := (Below.heap_setCell w p n b hp).trans h
theorem Blk7.set0 {w : World} {b t : Nat} {x0 x1 x2 x3 x4 x5 x6 : Value} (h : Blk7 w b t x0 x1 x2 x3 x4 x5 x6) (n : Value) : Blk7 (w.setCell ⟨b, 0, none⟩ n) b t n x1 x2 x3 x4 x5 x6 := heap_setCell_same w b 0 _ t n h
theorem Blk7.set1 {w : World} {b t : Nat} {x0 x1 x2 x3 x4 x5 x6 : Value} (h : Blk7 w b t x0 x1 x2 x3 x4 x5 x6) (n : Value) : Blk7 (w.setCell ⟨b, 1, none⟩ n) b t x0 n x2 x3 x4 x5 x6 := heap_setCell_same w b 1 _ t n h
theorem Blk7.set2 {w : World} {b t : Nat} {x0 x1 x2 x3 x4 x5 x6 : Value} (h : Blk7 w b t x0 x1 x2 x3 x4 x5 x6) (n : Value) : Blk7 (w.setCell ⟨b, 2, none⟩ n) b t x0 x1 n x3 x4 x5 x6 := heap_setCell_same w b 2 _ t n h
theorem Blk7.set3 {w : World} {b t : Nat} {x0 x1 x2 x3 x4 x5 x6 : Value} (h : Blk7 w b t x0 x1 x2 x3 x4 x5 x6) (n : Value) : Blk7 (w.setCell ⟨b, 3, none⟩ n) b t x0 x1 x2 n x4 x5 x6 := heap_setCell_same w b 3 _ t n h
theorem Blk7.set4 {w : World} {b t : Nat} {x0 x1 x2 x3 x4 x5 x6 : Value} (h : Blk7 w b t x0 x1 x2 x3 x4 x5 x6) (n : Value) : Blk7 (w.setCell ⟨b, 4, none⟩ n) b t x0 x1 x2 x3 n x5 x6 := heap_setCell_same w b 4 _ t n h
theorem Blk7.set5 {w : World} {b t : Nat} {x0 x1 x2 x3 x4 x5 x6 : Value} (h : Blk7 w b t x0 x1 x2 x3 x4 x5 x6) (n : Value) : Blk7 (w.setCell ⟨b, 5, none⟩ n) b t x0 x1 x2 x3 x4 n x6 := heap_setCell_same w b 5 _ t n h
theorem Blk7.set6 {w : World} {b t : Nat} {x0 x1 x2 x3 x4 x5 x6 : Value} (h : Blk7 w b t x0 x1 x2 x3 x4 x5 x6) (n : Value) : Blk7 (w.setCell ⟨b, 6, none⟩ n) b t x0 x1 x2 x3 x4 x5 n := heap_setCell_same w b 6 _ t n h
theorem load_rem {w : World} {b : Nat} {x0 x1 x2 x3 x4 x5 x6 : Value} (h : Blk7 w b 102 x0 x1 x2 x3 x4 x5 x6) : (loadVar 102 ⟨b, 0, none⟩).run Tryz.prog w = .ok (.agg #[x0, x1, x2, x3, x4, x5, x6]) w := by
  obtain ⟨c0, c1, c2, c3, c4, c5, c6⟩ := h.cells
  go_simp

/-- Results on their way. -/
def RemV (w : World) (v : Value) (ls : List (List Int)) (l : List Int) (bs : List Bool) (rs : List (List OpT)) (ts : List (List UInt8)) (m0 m : List ResT) : Prop :=
  ∃ nv ov sv rv x u y, v = .agg #[nv, ov, sv, rv, x, u, y] ∧ PlanV w (.agg #[nv, ov, sv, rv]) ls l bs rs ∧ RowV w x (S ts) ∧ RowR w u m0 ∧ RowR w y m
theorem RemV.below {w w' : World} {v : Value} {ls : List (List Int)} {l : List Int} {bs : List Bool} {rs : List (List OpT)} {ts : List (List UInt8)} {m0 m : List ResT} (h : RemV w v ls l bs rs ts m0 m) (hb : Below w.heap.size w w') : RemV w' v ls l bs rs ts m0 m := by
  obtain ⟨nv, ov, sv, rv, x, u, y, hv, h1, h2, h3, h4⟩ := h
  exact ⟨nv, ov, sv, rv, x, u, y, hv, h1.below hb, h2.below hb, h3.below hb, h4.below hb⟩

set_option maxRecDepth 20000 in
set_option maxHeartbeats 8000000 in
theorem fresh_any (ls : List (List Int)) (l : List Int) (bs : List Bool) (rs : List (List OpT)) (m0 m : List ResT) (ts : List (List UInt8)) (t : Nat) (v : Value) (w : World) (hrem : RemV w v ls l bs rs ts m0 m) (hpl : planA ls l bs rs = true) (hmb : m.length = bs.length) (htb : ts.length = bs.length) (ht : t < ls.length) (hxm : Sml m) (hxt : ∀ y ∈ ts, y.length ≤ 40) :
    Calls Tryz.prog 100 #[v, .int .i64 (t : Int)] w fun e w' => e = .returned (resV (oneM ls bs rs ts m t)) ∧ Below w.heap.size w w' := by
  obtain ⟨nv, ov, sv, rv, x, u, y, rfl, hp, hts, hr0, hr⟩ := hrem
  have HV := Lib.hid hp
  have HT := Lib.hid hts
  have HR0 := Lib.hid hr0
  have HR := Lib.hid hr
  obtain ⟨nv', ov', sv', rv', he, h1, h2, h3, h4⟩ := hp
  injection he with he
  simp only [Array.mk.injEq, List.cons.injEq, and_true] at he
  obtain ⟨rfl, rfl, rfl, rfl⟩ := he
  obtain ⟨as0, cs, rfl, hs1, hs2, _⟩ := h3.boolsW
  obtain ⟨an, cn, rfl, hn1, hn2, _⟩ := h1.lists
  obtain ⟨ao, co, rfl, ho1, ho2, _⟩ := h2.ints
  obtain ⟨ar, cr, rfl, hr1, hr2, _⟩ := h4.lists
  obtain ⟨at0, ct, rfl, ht1, ht2, _⟩ := hts.texts
  obtain ⟨am, cm, rfl, hm1, hm2, _⟩ := hr0.res
  obtain ⟨az, cz, rfl, hz1, hz2, _⟩ := hr.res
  clear h1 h2 h3 h4 hts hr0 hr
  unfold maxLen at hs2 hn2 ho2 hr2 ht2 hm2 hz2
  obtain ⟨wp, hwp⟩ : ∃ wp, wp = w.alloc (.cells #[.slice an ls.length cn, .slice ao l.length co, .slice as0 bs.length cs, .slice ar rs.length cr, .slice at0 ts.length ct, .slice am m0.length cm, .slice az m.length cz] 102) := ⟨_, rfl⟩
  obtain ⟨wa, hwa⟩ : ∃ wa, wa = wp.alloc (.cells #[.string ⟨#[]⟩, .int .i64 0] 75) := ⟨_, rfl⟩
  have ep : wp.heap.size = w.heap.size + 1 := by rw [hwp]; simp
  have ea : wa.heap.size = w.heap.size + 2 := by rw [hwa]; simp [ep]
  have P0 : Hid (Blk7 wa w.heap.size 102 (.slice an ls.length cn) (.slice ao l.length co) (.slice as0 bs.length cs) (.slice ar rs.length cr) (.slice at0 ts.length ct) (.slice am m0.length cm) (.slice az m.length cz)) := by rw [hwa, hwp]; exact Blk7.new.old _
  have R0 : Hid (Blk2 wa (w.heap.size + 1) 75 (.string ⟨#[]⟩) (.int .i64 0)) := by rw [hwa, ← ep]; exact Blk2.new
  have HA : Hid (Below w.heap.size w wa) := by rw [hwa, hwp]; exact ((Below.refl w.heap.size w).alloc (Nat.le_refl _) _).alloc (by simp) _
  have HWA : Hid ((w.alloc (.cells #[.slice an ls.length cn, .slice ao l.length co, .slice as0 bs.length cs, .slice ar rs.length cr, .slice at0 ts.length ct, .slice am m0.length cm, .slice az m.length cz] 102)).alloc (.cells #[.string ⟨#[]⟩, .int .i64 0] 75) = wa) := by rw [hwa, hwp]; rfl
  have hsz : w.heap.size < wa.heap.size := by omega
  have hsz1 : w.heap.size + 1 < wa.heap.size := by omega
  clear hwa hwp ep
  have HO := Lib.hid (implOne_any ls l bs rs m ts t _ _ _ wa (HV.out.below HA.out) (HR.out.below HA.out) (HT.out.below HA.out) hpl hmb htb ht hxm hxt)
  obtain ⟨c0, c1, c2, c3, c4, c5, c6⟩ := P0.out.cells
  clear hpl hmb htb hxm hxt
  generalize oneM ls bs rs ts m t = R at *
  obtain ⟨r1, r2⟩ := R
  unfold resV at HO ⊢
  simp only at HO ⊢
  go_enter Tryz.func100, Tryz.ntmps100
  go_wp2_with fail
  rw [HWA.out]
  refine HO.out.mono ?_
  rintro e w1 ⟨rfl, hb1⟩
  have HB1 := Lib.hid hb1
  clear hb1 c0 c1 c2 c3 c4 c5 c6 HO
  have hRB := R0.out.below HB1.out hsz1
  have HRB := Lib.hid hRB
  obtain ⟨r0', r1'⟩ := hRB.cells
  have z0 := hRB.soft 0
  have z1 := hRB.soft 1
  clear hRB
  go_wp2_with fail
  have hZ := (HRB.out.set0 (.string ⟨r1.toArray⟩)).set1 (.int .i64 r2)
  refine bodyPost_ret (results_cellR rfl rfl (load_res hZ.cells.1 hZ.cells.2)) rfl ?_
  exact ⟨rfl, ((bth HA.out HB1.out (Nat.le_refl _)).setCell (p := ⟨w.heap.size + 1, 0, none⟩) (by show _ ≤ _ + 1; omega) _).setCell (p := ⟨w.heap.size + 1, 1, none⟩) (by show _ ≤ _ + 1; omega) _⟩

set_option maxRecDepth 20000 in
set_option maxHeartbeats 8000000 in
theorem isStale_any (ls : List (List Int)) (l : List Int) (bs : List Bool) (rs : List (List OpT)) (m0 m : List ResT) (ts : List (List UInt8)) (t : Nat) (v : Value) (w : World) (hrem : RemV w v ls l bs rs ts m0 m) (hpl : planA ls l bs rs = true) (hmb : m.length = bs.length) (htb : ts.length = bs.length) (ht : t < ls.length) (hxm : Sml m) (hxt : ∀ y ∈ ts, y.length ≤ 40) :
    Calls Tryz.prog 68 #[v, .int .i64 (t : Int)] w fun e w' => e = .returned (.bool (staleP (oneM ls bs rs ts) m t)) ∧ Below w.heap.size w w' := by
  have HREM := Lib.hid hrem
  have hbl := (plan_parts hpl).2.1
  have htm : t < m.length := by omega
  obtain ⟨nv, ov, sv, rv, x, u, y, rfl, hp, hts, hr0, hr⟩ := hrem
  have HV := Lib.hid hp
  have HT := Lib.hid hts
  have HR0 := Lib.hid hr0
  have HR := Lib.hid hr
  obtain ⟨nv', ov', sv', rv', he, h1, h2, h3, h4⟩ := hp
  injection he with he
  simp only [Array.mk.injEq, List.cons.injEq, and_true] at he
  obtain ⟨rfl, rfl, rfl, rfl⟩ := he
  obtain ⟨as0, cs, rfl, hs1, hs2, _⟩ := h3.boolsW
  obtain ⟨an, cn, rfl, hn1, hn2, _⟩ := h1.lists
  obtain ⟨ao, co, rfl, ho1, ho2, _⟩ := h2.ints
  obtain ⟨ar, cr, rfl, hr1, hr2, _⟩ := h4.lists
  obtain ⟨at0, ct, rfl, ht1, ht2, _⟩ := hts.texts
  obtain ⟨am, cm, rfl, hm1, hm2, _⟩ := hr0.res
  obtain ⟨az, cz, rfl, hz1, hz2, hatm⟩ := hr.res
  clear h1 h2 h3 h4 hts hr0 hr
  unfold maxLen at hs2 hn2 ho2 hr2 ht2 hm2 hz2
  obtain ⟨gz, oz, rfl, hgz, hz0, hz1'⟩ := hatm t htm
  obtain ⟨wa, hwa⟩ : ∃ wa, wa = w.alloc (.cells #[.slice an ls.length cn, .slice ao l.length co, .slice as0 bs.length cs, .slice ar rs.length cr, .slice at0 ts.length ct, .slice am m0.length cm, .slice (some ⟨gz, oz, none⟩) m.length cz] 102) := ⟨_, rfl⟩
  have hsz : w.heap.size < wa.heap.size := by rw [hwa]; simp
  have P0 : Hid (Blk7 wa w.heap.size 102 (.slice an ls.length cn) (.slice ao l.length co) (.slice as0 bs.length cs) (.slice ar rs.length cr) (.slice at0 ts.length ct) (.slice am m0.length cm) (.slice (some ⟨gz, oz, none⟩) m.length cz)) := by rw [hwa]; exact Blk7.new
  have HA : Hid (Below w.heap.size w wa) := by rw [hwa]; exact (Below.refl w.heap.size w).alloc (Nat.le_refl _) _
  have HWA : Hid (w.alloc (.cells #[.slice an ls.length cn, .slice ao l.length co, .slice as0 bs.length cs, .slice ar rs.length cr, .slice at0 ts.length ct, .slice am m0.length cm, .slice (some ⟨gz, oz, none⟩) m.length cz] 102) = wa) := by rw [hwa]; rfl
  clear hwa
  have htz : (t : Int) < (m.length : Int) := by omega
  have HF := Lib.hid (fun W (h : Below w.heap.size w W) => fresh_any ls l bs rs m0 m ts t _ W (HREM.out.below h) hpl hmb htb ht hxm hxt)
  have hst : staleP (oneM ls bs rs ts) m t = decide (oneM ls bs rs ts m t ≠ m[t]) := by unfold staleP; rw [getD_at _ htm]
  rw [hst]
  have s1 := (HA.out.cell (p := ⟨gz, oz + t * 2, none⟩) hgz).trans hz0
  have s2 := (HA.out.cell (p := ⟨gz, oz + t * 2 + 1, none⟩) hgz).trans hz1'
  have hltp : w.heap.size < wa.heap.size := hsz
  have hltg : gz < wa.heap.size := by omega
  clear hatm hpl hmb htb hxm hxt hst hz0 hz1' hbl
  generalize m[t] = q at *
  generalize oneM ls bs rs ts m t = R at *
  obtain ⟨q1, q2⟩ := q
  obtain ⟨r1, r2⟩ := R
  simp only at s1 s2
  unfold resV at HF
  simp only at HF
  have PD : Hid (Blk7 wa.drew w.heap.size 102 (.slice an ls.length cn) (.slice ao l.length co) (.slice as0 bs.length cs) (.slice ar rs.length cr) (.slice at0 ts.length ct) (.slice am m0.length cm) (.slice (some ⟨gz, oz, none⟩) m.length cz)) := P0.out.below (Below.drew (Below.refl _ _)) hsz
  have SD : Hid (wa.drew.cell? ⟨gz, oz + t * 2, none⟩ = some (.string ⟨q1.toArray⟩) ∧ wa.drew.cell? ⟨gz, oz + t * 2 + 1, none⟩ = some (.int .i64 q2)) := ⟨s1, s2⟩
  have HAD := Lib.hid (Below.drew HA.out)
  have ks := And.intro PD.out.cells SD.out
  clear s1 s2
  by_cases he1 : r1 = q1
  · by_cases he2 : r2 = q2
    · subst he1 he2
      have HE : Hid (decide ((r1, r2) ≠ ((r1, r2) : ResT)) = false) := by show _ = _; simp
      go_enter Tryz.func68, Tryz.ntmps68
      go_upto_region 1 with fail
      rw [HWA.out]
      go_region_held3 (fun w' => (w'.cell? ⟨w.heap.size, 0, none⟩ = some (.slice an ls.length cn) ∧ w'.cell? ⟨w.heap.size, 1, none⟩ = some (.slice ao l.length co) ∧ w'.cell? ⟨w.heap.size, 2, none⟩ = some (.slice as0 bs.length cs) ∧ w'.cell? ⟨w.heap.size, 3, none⟩ = some (.slice ar rs.length cr) ∧ w'.cell? ⟨w.heap.size, 4, none⟩ = some (.slice at0 ts.length ct) ∧ w'.cell? ⟨w.heap.size, 5, none⟩ = some (.slice am m0.length cm) ∧ w'.cell? ⟨w.heap.size, 6, none⟩ = some (.slice (some ⟨gz, oz, none⟩) m.length cz)) ∧ (w'.cell? ⟨gz, oz + t * 2, none⟩ = some (.string ⟨r1.toArray⟩) ∧ w'.cell? ⟨gz, oz + t * 2 + 1, none⟩ = some (.int .i64 r2))) (first | exact ks)
        (first
          | (go_at_call 100; refine (HF.out _ (by exact HAD.out)).mono ?_; rintro e w8 ⟨rfl, hb8⟩
             have ks := And.intro (PD.out.below hb8 hltp).cells (And.intro ((hb8.cell (p := ⟨gz, oz + t * 2, none⟩) hltg).trans SD.out.1) ((hb8.cell (p := ⟨gz, oz + t * 2 + 1, none⟩) hltg).trans SD.out.2))
             have C8 := Lib.hid hb8
             clear hb8))
      all_goals
        have HB8 := Lib.hid (bth HAD.out C8.out (Nat.le_refl _))
        clear ks
        go_wp2_with fail
        go_ret
        exact ⟨by rw [HE.out] <;> rfl, HB8.out⟩
    · subst he1
      have HE : Hid (decide ((r1, r2) ≠ ((r1, q2) : ResT)) = true) := by show _ = _; simp [he2]
      have he2' : ¬ q2 = r2 := fun h => he2 h.symm
      go_enter Tryz.func68, Tryz.ntmps68
      go_upto_region 1 with fail
      rw [HWA.out]
      go_region_held3 (fun w' => (w'.cell? ⟨w.heap.size, 0, none⟩ = some (.slice an ls.length cn) ∧ w'.cell? ⟨w.heap.size, 1, none⟩ = some (.slice ao l.length co) ∧ w'.cell? ⟨w.heap.size, 2, none⟩ = some (.slice as0 bs.length cs) ∧ w'.cell? ⟨w.heap.size, 3, none⟩ = some (.slice ar rs.length cr) ∧ w'.cell? ⟨w.heap.size, 4, none⟩ = some (.slice at0 ts.length ct) ∧ w'.cell? ⟨w.heap.size, 5, none⟩ = some (.slice am m0.length cm) ∧ w'.cell? ⟨w.heap.size, 6, none⟩ = some (.slice (some ⟨gz, oz, none⟩) m.length cz)) ∧ (w'.cell? ⟨gz, oz + t * 2, none⟩ = some (.string ⟨r1.toArray⟩) ∧ w'.cell? ⟨gz, oz + t * 2 + 1, none⟩ = some (.int .i64 q2))) (first | exact ks)
        (first
          | (go_at_call 100; refine (HF.out _ (by exact HAD.out)).mono ?_; rintro e w8 ⟨rfl, hb8⟩
             have ks := And.intro (PD.out.below hb8 hltp).cells (And.intro ((hb8.cell (p := ⟨gz, oz + t * 2, none⟩) hltg).trans SD.out.1) ((hb8.cell (p := ⟨gz, oz + t * 2 + 1, none⟩) hltg).trans SD.out.2))
             have C8 := Lib.hid hb8
             clear hb8))
      all_goals
        have HB8 := Lib.hid (bth HAD.out C8.out (Nat.le_refl _))
        clear ks
        go_wp2_with fail
        go_ret
        exact ⟨by rw [HE.out] <;> rfl, HB8.out⟩
  · have HE : Hid (decide ((r1, r2) ≠ ((q1, q2) : ResT)) = true) := by show _ = _; simp [he1]
    have he1' : ¬ q1 = r1 := fun h => he1 h.symm
    go_enter Tryz.func68, Tryz.ntmps68
    go_upto_region 1 with fail
    rw [HWA.out]
    go_region_held3 (fun w' => (w'.cell? ⟨w.heap.size, 0, none⟩ = some (.slice an ls.length cn) ∧ w'.cell? ⟨w.heap.size, 1, none⟩ = some (.slice ao l.length co) ∧ w'.cell? ⟨w.heap.size, 2, none⟩ = some (.slice as0 bs.length cs) ∧ w'.cell? ⟨w.heap.size, 3, none⟩ = some (.slice ar rs.length cr) ∧ w'.cell? ⟨w.heap.size, 4, none⟩ = some (.slice at0 ts.length ct) ∧ w'.cell? ⟨w.heap.size, 5, none⟩ = some (.slice am m0.length cm) ∧ w'.cell? ⟨w.heap.size, 6, none⟩ = some (.slice (some ⟨gz, oz, none⟩) m.length cz)) ∧ (w'.cell? ⟨gz, oz + t * 2, none⟩ = some (.string ⟨q1.toArray⟩) ∧ w'.cell? ⟨gz, oz + t * 2 + 1, none⟩ = some (.int .i64 q2))) (first | exact ks)
      (first
        | (go_at_call 100; refine (HF.out _ (by exact HAD.out)).mono ?_; rintro e w8 ⟨rfl, hb8⟩
           have ks := And.intro (PD.out.below hb8 hltp).cells (And.intro ((hb8.cell (p := ⟨gz, oz + t * 2, none⟩) hltg).trans SD.out.1) ((hb8.cell (p := ⟨gz, oz + t * 2 + 1, none⟩) hltg).trans SD.out.2))
           have C8 := Lib.hid hb8
           clear hb8))
    all_goals
      have HB8 := Lib.hid (bth HAD.out C8.out (Nat.le_refl _))
      clear ks
      go_wp2_with fail
      go_ret
      exact ⟨by rw [HE.out] <;> rfl, HB8.out⟩

end Go.Proofs.YtgolhfmmlanmlaaGreatDoor

/- Walks: results on their way begin, of the program. -/
namespace Go.Proofs.YtgolhfmmlanmlaaGreatDoor
open Go.RowKit Pth

/-- What a new list of results holds. -/
theorem make_allocR (n : Nat) (hn : n ≤ 2000000) (w : World) : (Instr.makeSlice 35 (.int .i64 (n : Int)) (.int .i64 (n : Int))).run Tryz.prog w = .ok (.slice (some ⟨w.heap.size, 0, none⟩) n n) (w.alloc (.cells (madeCells #[.string ByteArray.empty, .int .i64 0] (n * 2)) 75)) := by
  obtain ⟨i0, hi, hz0, hz1, hz2⟩ := info_parts elemR.info
  have hb : ((i0.bytes : Int)) * (n : Int) ≤ 281474976710656 := by
    have h : i0.bytes * n ≤ 281474976710656 := by rw [hz2]; exact Nat.le_trans (Nat.mul_le_mul elemR.small hn) (by decide)
    have h' : ((i0.bytes * n : Nat) : Int) ≤ 281474976710656 := by omega
    rwa [Int.natCast_mul] at h'
  have hr := run_make (P := Tryz.prog) w 35 75 i0 _ elemR.under hi hz0 .i64 .i64 n n (by omega) (Int.le_refl _) hb (by omega)
  simp only [Int.toNat_natCast, hz1] at hr
  exact hr
theorem own_of_heapR {w : World} {B n g : Nat} {l : List ResT} {cs : Array Value} (hh : w.heap[g]? = some (.cells cs 75 (0, 0))) (hg : B ≤ g) (hx : cs.toList = RC l) (hl : l.length = n) (hn : n ≤ maxLen) : w.ownsRow B 75 2 (.slice (some ⟨g, 0, none⟩) n n) n (RC l) := by
  have hs : cs.size = n * 2 := by rw [← Array.length_toList, hx, RC_len, hl]
  refine ⟨by rw [RC_len, hl], .inr ⟨g, n, cs, rfl, hg, hh, Nat.le_refl _, hn, by omega, ?_⟩⟩
  rw [hx, ← hl, ← RC_len, List.take_length]
theorem two_new (w : World) (X Y : Array Value) (x y : TypeId) :
    let W := ((w.alloc (.cells X x)).alloc (.cells Y y)).drew
    W.heap[w.heap.size]? = some (.cells X x (0, 0)) ∧ W.heap[w.heap.size + 1]? = some (.cells Y y (0, 0)) ∧ Below w.heap.size w W := by
  have e1 : (w.alloc (.cells X x)).heap.size = w.heap.size + 1 := by simp
  have h0 := heap_alloc_new w (.cells X x)
  have h1 := heap_alloc_new (w.alloc (.cells X x)) (.cells Y y)
  rw [e1] at h1
  have o1 := Below.heap_alloc (w.alloc (.cells X x)) (.cells Y y)
  exact ⟨(o1 _ (by omega)).trans h0, h1, Below.drew (((Below.refl w.heap.size w).alloc (Nat.le_refl _) _).alloc (by omega) _)⟩
theorem results_cellB {fn : Func} {p u : Tmp} {ty : TypeId} (h : fn.results = #[.cell p ty, .tmp u]) {tmps : Array Value} {w : World} {ad : Addr} {v : Value} (hp : tmps.getD p undef = .pointer (some ad)) (hl : (loadVar ty ad).run Tryz.prog w = .ok v w) :
    (results fn tmps).run Tryz.prog w = .ok (.tuple #[v, tmps.getD u undef]) w := results_cell2 h hp hl
/-- A new block of results on their way, and its list. -/
def NewRem (w : World) (b g : Nat) (x0 x1 x2 x3 x4 x5 : Value) (n : Nat) (wx : World) : Prop :=
  w.heap.size ≤ b ∧ w.heap.size ≤ g ∧ b ≠ g ∧ Blk7 wx b 102 x0 x1 x2 x3 x4 x5 (.slice (some ⟨g, 0, none⟩) n n) ∧ wx.ownsRow w.heap.size 75 2 (.slice (some ⟨g, 0, none⟩) n n) n (RC (List.replicate n noRes)) ∧ Below w.heap.size w wx
theorem set_ne (W : World) {g b i j : Nat} (u : Value) (h : b ≠ g) : (W.setCell ⟨g, i, none⟩ u).cell? ⟨b, j, none⟩ = W.cell? ⟨b, j, none⟩ := World.cell?_of_block (w := W) (a := ⟨b, j, none⟩) (Below.heap_setCell W _ u b (by show b ≠ g; exact h))
theorem own_setNeG {w : World} {B e n z : Nat} {v : Value} {xs : List Value} (h : w.ownsRow B e z v n xs) {p : Addr} (hp : v.ownBlock ≠ some p.block) (u : Value) : (w.setCell p u).ownsRow B e z v n xs := by
  refine ⟨h.1, ?_⟩
  rcases h.2 with h0 | ⟨g, cap, cur, hv, hg, hh, r⟩
  · exact .inl h0
  · exact .inr ⟨g, cap, cur, hv, hg, (Below.heap_setCell w p u g (fun e => hp (by rw [hv, ← e]; rfl))).trans hh, r⟩
set_option maxRecDepth 20000 in
set_option maxHeartbeats 8000000 in
theorem ownRes8_any (o : ResT) (w : World) (hx : o.1.length ≤ 1000) :
    Calls Tryz.prog 90 #[resV o] w fun e w' => e = .returned (resV o) ∧ Below w.heap.size w w' := by
  obtain ⟨t, n⟩ := o
  unfold resV
  simp only at hx ⊢
  obtain ⟨wp, hwp⟩ : ∃ wp, wp = w.alloc (.cells #[.string ⟨t.toArray⟩, .int .i64 n] 75) := ⟨_, rfl⟩
  obtain ⟨wa, hwa⟩ : ∃ wa, wa = wp.alloc (.cells #[.string ⟨#[]⟩, .int .i64 0] 75) := ⟨_, rfl⟩
  have ep : wp.heap.size = w.heap.size + 1 := by rw [hwp]; simp
  have ea : wa.heap.size = w.heap.size + 2 := by rw [hwa]; simp [ep]
  have Q0 : Hid (Blk2 wa.drew w.heap.size 75 (.string ⟨t.toArray⟩) (.int .i64 n)) := by show Blk2 wa _ _ _ _; rw [hwa, hwp]; exact Blk2.new.old _
  have R0 : Hid (Blk2 wa.drew (w.heap.size + 1) 75 (.string ⟨#[]⟩) (.int .i64 0)) := by show Blk2 wa _ _ _ _; rw [hwa, ← ep]; exact Blk2.new
  have HA : Hid (Below w.heap.size w wa.drew) := by
    have : Below w.heap.size w wa := by rw [hwa, hwp]; exact ((Below.refl w.heap.size w).alloc (Nat.le_refl _) _).alloc (by simp) _
    exact Below.drew this
  have HWA : Hid ((w.alloc (.cells #[.string ⟨t.toArray⟩, .int .i64 n] 75)).alloc (.cells #[.string ⟨#[]⟩, .int .i64 0] 75) = wa) := by rw [hwa, hwp]; rfl
  have hsz : wa.drew.heap.size = w.heap.size + 2 := ea
  have HC := Lib.hid (clone_any t wa.drew hx)
  have ks := Q0.out.cells
  have hne : w.heap.size ≠ w.heap.size + 1 := by omega
  have hl0 : w.heap.size < wa.drew.heap.size := by omega
  have hl1 : w.heap.size + 1 < wa.drew.heap.size := by omega
  clear hwa hwp ep ea
  go_enter Tryz.func90, Tryz.ntmps90
  go_wp2_with fail
  rw [HWA.out]
  go_region_held3 (fun w' => w'.cell? ⟨w.heap.size, 0, none⟩ = some (.string ⟨t.toArray⟩) ∧ w'.cell? ⟨w.heap.size, 1, none⟩ = some (.int .i64 n)) (first | exact ks | (rw [set_ne _ _ hne, set_ne _ _ hne, set_ne _ _ hne, set_ne _ _ hne]; exact ks))
    (first
      | (go_at_call 116; refine HC.out.mono ?_; rintro e w7 ⟨rfl, hb7⟩
         have ks := (Q0.out.below hb7 hl0).cells
         have R7 := Lib.hid (R0.out.below hb7 hl1)
         obtain ⟨f0, f1⟩ := R7.out.cells
         have g0 := R7.out.soft 0
         have g1 := R7.out.soft 1
         have HB7 := Lib.hid (bth HA.out hb7 (Nat.le_refl _))
         clear hb7))
  all_goals
    clear ks
    have hZ := (R7.out.set0 (.string ⟨t.toArray⟩)).set1 (.int .i64 n)
    go_wp2_with fail
    refine bodyPost_ret (results_cellR rfl rfl (load_res hZ.cells.1 hZ.cells.2)) rfl ?_
    exact ⟨rfl, (HB7.out.setCell (p := ⟨w.heap.size + 1, 0, none⟩) (by show _ ≤ _ + 1; omega) _).setCell (p := ⟨w.heap.size + 1, 1, none⟩) (by show _ ≤ _ + 1; omega) _⟩

set_option maxRecDepth 20000 in
set_option maxHeartbeats 8000000 in
theorem startRem_no (ls : List (List Int)) (l : List Int) (bs : List Bool) (rs : List (List OpT)) (m : List ResT) (ts : List (List UInt8)) (an ao as0 ar at0 am : Option Addr) (cn co cs cr ct cm : Nat) (w : World) (hp : PlanV w (.agg #[.slice an ls.length cn, .slice ao l.length co, .slice as0 bs.length cs, .slice ar rs.length cr]) ls l bs rs) (hr : RowR w (.slice am m.length cm) m) (hts : RowV w (.slice at0 ts.length ct) (S ts)) (hx : ∀ l ∈ rs, ∀ f ∈ l, f.2.2.length ≤ maxLen) (hxm : ∀ f ∈ m, f.1.length ≤ maxLen) (hxt : ∀ x ∈ ts, x.length ≤ maxLen) (hg : goodA8 ls l bs rs m ts = false) :
    Calls Tryz.prog 66 #[.agg #[.slice an ls.length cn, .slice ao l.length co, .slice as0 bs.length cs, .slice ar rs.length cr], .slice am m.length cm, .slice at0 ts.length ct] w fun e w' => e = .returned (.tuple #[.agg #[.slice none 0 0, .slice none 0 0, .slice none 0 0, .slice none 0 0, .slice none 0 0, .slice none 0 0, .slice none 0 0], .bool false]) ∧ Below w.heap.size w w' := by
  have HV := Lib.hid hp
  have HR := Lib.hid hr
  have HT := Lib.hid hts
  obtain ⟨wp, hwp⟩ : ∃ wp, wp = w.alloc (.cells #[.slice an ls.length cn, .slice ao l.length co, .slice as0 bs.length cs, .slice ar rs.length cr] 42) := ⟨_, rfl⟩
  obtain ⟨wa, hwa⟩ : ∃ wa, wa = wp.alloc (.cells #[.slice none 0 0, .slice none 0 0, .slice none 0 0, .slice none 0 0, .slice none 0 0, .slice none 0 0, .slice none 0 0] 102) := ⟨_, rfl⟩
  have ep : wp.heap.size = w.heap.size + 1 := by rw [hwp]; simp
  have ea : wa.heap.size = w.heap.size + 2 := by rw [hwa]; simp [ep]
  have P0 : Hid (Blk4 wa w.heap.size 42 (.slice an ls.length cn) (.slice ao l.length co) (.slice as0 bs.length cs) (.slice ar rs.length cr)) := by rw [hwa, hwp]; exact Blk4.new.old _
  have R0 : Hid (Blk7 wa (w.heap.size + 1) 102 (.slice none 0 0) (.slice none 0 0) (.slice none 0 0) (.slice none 0 0) (.slice none 0 0) (.slice none 0 0) (.slice none 0 0)) := by rw [hwa, ← ep]; exact Blk7.new
  have HA : Hid (Below w.heap.size w wa) := by rw [hwa, hwp]; exact ((Below.refl w.heap.size w).alloc (Nat.le_refl _) _).alloc (by simp) _
  have HWA : Hid ((w.alloc (.cells #[.slice an ls.length cn, .slice ao l.length co, .slice as0 bs.length cs, .slice ar rs.length cr] 42)).alloc (.cells #[.slice none 0 0, .slice none 0 0, .slice none 0 0, .slice none 0 0, .slice none 0 0, .slice none 0 0, .slice none 0 0] 102) = wa) := by rw [hwa, hwp]; rfl
  have hsz : w.heap.size < wa.heap.size := by omega
  have hsz1 : w.heap.size + 1 < wa.heap.size := by omega
  clear hwa hwp ep
  obtain ⟨a, ha⟩ : ∃ a, bothA ls l bs rs m = a := ⟨_, rfl⟩
  obtain ⟨c, hc⟩ : ∃ c, srcA ls l bs rs ts = c := ⟨_, rfl⟩
  have hac : (a && c) = false := by rw [← hg]; unfold goodA8; rw [ha, hc]
  have HC := Lib.hid (implBoth_b ha _ _ wa (HV.out.below HA.out) (HR.out.below HA.out) hx hxm)
  have HS := Lib.hid (fun W (hb : Below w.heap.size w W) => implSrc_any ls l bs rs ts _ _ W (HV.out.below hb) (HT.out.below hb) hx hxt)
  rw [hc] at HS
  obtain ⟨c0, c1, c2, c3⟩ := P0.out.cells
  clear hp hr hts hx hxm hxt hg ha hc
  rcases a with _ | _
  · clear HS hac
    go_enter Tryz.func66, Tryz.ntmps66
    go_wp2_with fail
    rw [HWA.out]
    refine HC.out.mono ?_
    rintro e w1 ⟨rfl, hb1⟩
    have K1 := Lib.hid hb1
    clear hb1 c0 c1 c2 c3
    have hRB := R0.out.below K1.out hsz1
    have HRB := Lib.hid hRB
    obtain ⟨r0, r1, r2, r3, r4, r5, r6⟩ := hRB.cells
    have z0 := hRB.soft 0
    have z1 := hRB.soft 1
    have z2 := hRB.soft 2
    have z3 := hRB.soft 3
    have z4 := hRB.soft 4
    have z5 := hRB.soft 5
    have z6 := hRB.soft 6
    clear hRB
    go_wp2_with fail
    have hZ := (((((((HRB.out.set0 (.slice none 0 0)).set1 (.slice none 0 0)).set2 (.slice none 0 0)).set3 (.slice none 0 0)).set4 (.slice none 0 0)).set5 (.slice none 0 0)).set6 (.slice none 0 0))
    refine bodyPost_ret (results_cell2 rfl rfl (load_rem hZ)) rfl ?_
    exact ⟨rfl, ((((((((bth HA.out K1.out (Nat.le_refl _)).setCell (p := ⟨w.heap.size + 1, 0, none⟩) (by show _ ≤ _ + 1; omega) _).setCell (p := ⟨w.heap.size + 1, 1, none⟩) (by show _ ≤ _ + 1; omega) _).setCell (p := ⟨w.heap.size + 1, 2, none⟩) (by show _ ≤ _ + 1; omega) _).setCell (p := ⟨w.heap.size + 1, 3, none⟩) (by show _ ≤ _ + 1; omega) _).setCell (p := ⟨w.heap.size + 1, 4, none⟩) (by show _ ≤ _ + 1; omega) _).setCell (p := ⟨w.heap.size + 1, 5, none⟩) (by show _ ≤ _ + 1; omega) _).setCell (p := ⟨w.heap.size + 1, 6, none⟩) (by show _ ≤ _ + 1; omega) _)⟩
  · have hcf : c = false := by simpa using hac
    subst hcf
    clear hac
    go_enter Tryz.func66, Tryz.ntmps66
    go_wp2_with fail
    rw [HWA.out]
    refine HC.out.mono ?_
    rintro e w1 ⟨rfl, hb1⟩
    have K1 := Lib.hid hb1
    have KW1 := Lib.hid (bth HA.out hb1 (Nat.le_refl _))
    clear hb1 c0 c1 c2 c3
    obtain ⟨c0, c1, c2, c3⟩ := (P0.out.below K1.out hsz).cells
    go_wp2_with fail
    refine (HS.out w1 KW1.out).mono ?_
    rintro e w2 ⟨rfl, hb2⟩
    have K2 := Lib.hid (bth K1.out hb2 (Nat.le_refl _))
    clear hb2 c0 c1 c2 c3
    have hRB := R0.out.below K2.out hsz1
    have HRB := Lib.hid hRB
    obtain ⟨r0, r1, r2, r3, r4, r5, r6⟩ := hRB.cells
    have z0 := hRB.soft 0
    have z1 := hRB.soft 1
    have z2 := hRB.soft 2
    have z3 := hRB.soft 3
    have z4 := hRB.soft 4
    have z5 := hRB.soft 5
    have z6 := hRB.soft 6
    clear hRB
    go_wp2_with fail
    have hZ := (((((((HRB.out.set0 (.slice none 0 0)).set1 (.slice none 0 0)).set2 (.slice none 0 0)).set3 (.slice none 0 0)).set4 (.slice none 0 0)).set5 (.slice none 0 0)).set6 (.slice none 0 0))
    refine bodyPost_ret (results_cell2 rfl rfl (load_rem hZ)) rfl ?_
    exact ⟨rfl, ((((((((bth HA.out K2.out (Nat.le_refl _)).setCell (p := ⟨w.heap.size + 1, 0, none⟩) (by show _ ≤ _ + 1; omega) _).setCell (p := ⟨w.heap.size + 1, 1, none⟩) (by show _ ≤ _ + 1; omega) _).setCell (p := ⟨w.heap.size + 1, 2, none⟩) (by show _ ≤ _ + 1; omega) _).setCell (p := ⟨w.heap.size + 1, 3, none⟩) (by show _ ≤ _ + 1; omega) _).setCell (p := ⟨w.heap.size + 1, 4, none⟩) (by show _ ≤ _ + 1; omega) _).setCell (p := ⟨w.heap.size + 1, 5, none⟩) (by show _ ≤ _ + 1; omega) _).setCell (p := ⟨w.heap.size + 1, 6, none⟩) (by show _ ≤ _ + 1; omega) _)⟩

set_option maxRecDepth 20000 in
set_option maxHeartbeats 8000000 in
theorem startRem_yes (ls : List (List Int)) (l : List Int) (bs : List Bool) (rs : List (List OpT)) (m : List ResT) (ts : List (List UInt8)) (an ao as0 ar at0 am : Option Addr) (cn co cs cr ct cm : Nat) (w : World) (hp : PlanV w (.agg #[.slice an ls.length cn, .slice ao l.length co, .slice as0 bs.length cs, .slice ar rs.length cr]) ls l bs rs) (hr : RowR w (.slice am m.length cm) m) (hts : RowV w (.slice at0 ts.length ct) (S ts)) (hx : ∀ l ∈ rs, ∀ f ∈ l, f.2.2.length ≤ maxLen) (hxm : ∀ f ∈ m, f.1.length ≤ maxLen) (hxt : ∀ x ∈ ts, x.length ≤ maxLen) (hg : goodA8 ls l bs rs m ts = true) :
    Calls Tryz.prog 66 #[.agg #[.slice an ls.length cn, .slice ao l.length co, .slice as0 bs.length cs, .slice ar rs.length cr], .slice am m.length cm, .slice at0 ts.length ct] w fun e w' => ∃ g, e = .returned (.tuple #[.agg #[.slice an ls.length cn, .slice ao l.length co, .slice as0 bs.length cs, .slice ar rs.length cr, .slice at0 ts.length ct, .slice am m.length cm, .slice (some ⟨g, 0, none⟩) m.length m.length], .bool true]) ∧ w'.ownsRow w.heap.size 75 2 (.slice (some ⟨g, 0, none⟩) m.length m.length) m.length (RC m) ∧ Below w.heap.size w w' := by
  have HV := Lib.hid hp
  have HR := Lib.hid hr
  have HT := Lib.hid hts
  obtain ⟨hpl, hmb, htb, hsm, hst, hsrc, hboth⟩ := good8_parts hg
  have hm10 : m.length ≤ 10 := by have := (plan_parts hpl).1.high; have := (plan_parts hpl).2.1; omega
  obtain ⟨wp, hwp⟩ : ∃ wp, wp = w.alloc (.cells #[.slice an ls.length cn, .slice ao l.length co, .slice as0 bs.length cs, .slice ar rs.length cr] 42) := ⟨_, rfl⟩
  obtain ⟨wa, hwa⟩ : ∃ wa, wa = wp.alloc (.cells #[.slice none 0 0, .slice none 0 0, .slice none 0 0, .slice none 0 0, .slice none 0 0, .slice none 0 0, .slice none 0 0] 102) := ⟨_, rfl⟩
  have ep : wp.heap.size = w.heap.size + 1 := by rw [hwp]; simp
  have ea : wa.heap.size = w.heap.size + 2 := by rw [hwa]; simp [ep]
  have P0 : Hid (Blk4 wa w.heap.size 42 (.slice an ls.length cn) (.slice ao l.length co) (.slice as0 bs.length cs) (.slice ar rs.length cr)) := by rw [hwa, hwp]; exact Blk4.new.old _
  have R0 : Hid (Blk7 wa (w.heap.size + 1) 102 (.slice none 0 0) (.slice none 0 0) (.slice none 0 0) (.slice none 0 0) (.slice none 0 0) (.slice none 0 0) (.slice none 0 0)) := by rw [hwa, ← ep]; exact Blk7.new
  have HA : Hid (Below w.heap.size w wa) := by rw [hwa, hwp]; exact ((Below.refl w.heap.size w).alloc (Nat.le_refl _) _).alloc (by simp) _
  have HWA : Hid ((w.alloc (.cells #[.slice an ls.length cn, .slice ao l.length co, .slice as0 bs.length cs, .slice ar rs.length cr] 42)).alloc (.cells #[.slice none 0 0, .slice none 0 0, .slice none 0 0, .slice none 0 0, .slice none 0 0, .slice none 0 0, .slice none 0 0] 102) = wa) := by rw [hwa, hwp]; rfl
  have hsz : w.heap.size < wa.heap.size := by omega
  have hsz1 : w.heap.size + 1 < wa.heap.size := by omega
  clear hwa hwp ep
  have HC := Lib.hid (implBoth_b hboth _ _ wa (HV.out.below HA.out) (HR.out.below HA.out) hx hxm)
  have HS := Lib.hid (fun W (hb : Below w.heap.size w W) => implSrc_any ls l bs rs ts _ _ W (HV.out.below hb) (HT.out.below hb) hx hxt)
  rw [hsrc] at HS
  obtain ⟨_, _, hev, hm1, hm2, hatm⟩ := hr.res
  injection hev with hea _ hec
  subst hea hec
  unfold maxLen at hm2
  have HATM := Lib.hid hatm
  have HSM := Lib.hid hsm
  have hmk := make_allocR m.length (by omega)
  obtain ⟨c0, c1, c2, c3⟩ := P0.out.cells
  clear hp hr hts hx hxm hxt hg hpl hmb htb hsm hst hsrc hboth hatm
  go_enter Tryz.func66, Tryz.ntmps66
  go_wp2_with fail
  rw [HWA.out]
  refine HC.out.mono ?_
  rintro e w1 ⟨rfl, hb1⟩
  have K1 := Lib.hid hb1
  have KW1 := Lib.hid (bth HA.out hb1 (Nat.le_refl _))
  clear hb1 c0 c1 c2 c3
  obtain ⟨c0, c1, c2, c3⟩ := (P0.out.below K1.out hsz).cells
  go_wp2_with fail
  refine (HS.out w1 KW1.out).mono ?_
  rintro e w2 ⟨rfl, hb2⟩
  have K2 := Lib.hid (bth K1.out hb2 (Nat.le_refl _))
  have s2 : wa.heap.size ≤ w2.heap.size := K2.out.size
  have hlt2 : w.heap.size < w2.heap.size := by omega
  clear hb2 c0 c1 c2 c3 HC HS
  obtain ⟨c0, c1, c2, c3⟩ := (P0.out.below K2.out hsz).cells
  go_upto_region 3 with fail
  go_cut [8] from 22 to 28 (fun p wx => ∃ b g : Nat, p = .pointer (some ⟨b, 0, none⟩) ∧ Hid (NewRem w2 b g (.slice an ls.length cn) (.slice ao l.length co) (.slice as0 bs.length cs) (.slice ar rs.length cr) (.slice at0 ts.length ct) (.slice am m.length cm) m.length wx))
  case first =>
    go_region
    all_goals
      go_wp2_with fail
      go_meet
      case rel =>
        first
          | (obtain ⟨k0, k1, kb⟩ := two_new w2 (madeCells #[.string ByteArray.empty, .int .i64 0] (m.length * 2)) #[.slice an ls.length cn, .slice ao l.length co, .slice as0 bs.length cs, .slice ar rs.length cr, .slice at0 ts.length ct, .slice am m.length cm, .slice (some ⟨w2.heap.size, 0, none⟩) m.length m.length] 75 102
             exact ⟨_, _, rfl, by omega, Nat.le_refl _, by omega, k1, own_of_heapR k0 (Nat.le_refl _) (RC_zero _).symm (by simp) (by unfold maxLen; omega), kb⟩)
          | (obtain ⟨k0, k1, kb⟩ := two_new w2 #[.slice an ls.length cn, .slice ao l.length co, .slice as0 bs.length cs, .slice ar rs.length cr, .slice at0 ts.length ct, .slice am m.length cm, .slice (some ⟨w2.heap.size + 1, 0, none⟩) m.length m.length] (madeCells #[.string ByteArray.empty, .int .i64 0] (m.length * 2)) 102 75
             exact ⟨_, _, rfl, Nat.le_refl _, by omega, by omega, k0, own_of_heapR k1 (by omega) (RC_zero _).symm (by simp) (by unfold maxLen; omega), kb⟩)
  case rest =>
    obtain ⟨b, g, rfl, HNR⟩ := hcut
    clear hmk c0 c1 c2 c3
    have hNR := HNR.out
    obtain ⟨hb0, hg0, hbg, hB7, hRow, hBl⟩ := hNR
    have B7 := Lib.hid hB7
    have HN0 := Lib.hid hRow
    have HB0 := Lib.hid hBl
    have sc := hBl.size
    have hbc : b < wc.heap.size := lt_of_block hB7
    clear hB7 hRow hBl HNR
    go_wp2_with fail
    go_loopw [31] (fun i wr => ∃ k : Nat, k ≤ m.length ∧ i = .int .i64 k ∧ Hid (wr.ownsRow w2.heap.size 75 2 (.slice (some ⟨g, 0, none⟩) m.length m.length) m.length (RC (m.take k) ++ RC (List.replicate (m.length - k) noRes))) ∧ Hid (Below w2.heap.size w2 wr) ∧ Hid (Blk7 wr b 102 (.slice an ls.length cn) (.slice ao l.length co) (.slice as0 bs.length cs) (.slice ar rs.length cr) (.slice at0 ts.length ct) (.slice am m.length cm) (.slice (some ⟨g, 0, none⟩) m.length m.length))) (fun i _ => m.length - (intOf i).toNat)
    case atStart => exact ⟨0, Nat.zero_le _, rfl, HN0, HB0, B7⟩
    case round =>
      clear HN0 HB0 B7
      obtain ⟨k, hk, rfl, HN, HB, HB7⟩ := hrel
      have hbs := HB.out.size
      by_cases hlt : k < m.length
      · obtain ⟨gm, om, rfl, hgm, hcell1, hcell2⟩ := HATM.out k hlt
        have KW := Lib.hid (bth HA.out (bth K2.out HB.out (Nat.le_refl _)) (Nat.le_refl _))
        have s1 := (KW.out.cell (p := ⟨gm, om + k * 2, none⟩) hgm).trans hcell1
        have s2 := (KW.out.cell (p := ⟨gm, om + k * 2 + 1, none⟩) hgm).trans hcell2
        have hkz : (k : Int) < (m.length : Int) := by omega
        have hxl : m[k].1.length ≤ 40 := HSM.out _ (List.getElem_mem hlt)
        have ht : (m.take k).length = k := by rw [List.length_take]; omega
        have er : List.replicate (m.length - k) noRes = noRes :: List.replicate (m.length - (k + 1)) noRes := by rw [show m.length - k = (m.length - (k + 1)) + 1 by omega, List.replicate_succ]
        rw [er] at HN
        have HE := Lib.hid (set_two (m.take k) k ht noRes (List.replicate (m.length - (k + 1)) noRes) m[k])
        have HE2 := Lib.hid (get_two (m.take k) k ht noRes (List.replicate (m.length - (k + 1)) noRes))
        have HTK : Hid (m.take k ++ [m[k]] = m.take (k + 1)) := (List.take_succ_eq_append_getElem hlt).symm
        rw [HTK.out] at HE
        clear hcell1 hcell2 HATM HSM HTK er ht
        generalize m[k] = q at s1 s2 HE hxl
        obtain ⟨q1, q2⟩ := q
        simp only at s1 s2 HE hxl
        obtain ⟨wq, hwq⟩ : ∃ wq, wq = wr.alloc (.cells #[.string ⟨q1.toArray⟩, .int .i64 q2] 75) := ⟨_, rfl⟩
        have Q0 : Hid (Blk2 wq wr.heap.size 75 (.string ⟨q1.toArray⟩) (.int .i64 q2)) := by rw [hwq]; exact Blk2.new
        have hBQ : Below wr.heap.size wr wq := by rw [hwq]; exact (Below.refl wr.heap.size wr).alloc (Nat.le_refl _) _
        have hsq : wr.heap.size < wq.heap.size := by rw [hwq]; simp
        have HWQ : Hid (wr.alloc (.cells #[.string ⟨q1.toArray⟩, .int .i64 q2] 75) = wq) := by rw [hwq]; rfl
        have HBQ := Lib.hid (bth HB.out hBQ (Nat.le_refl _))
        have HNQ := Lib.hid (own_belowG HN.out hBQ)
        have hbr : b < wr.heap.size := lt_of_block HB7.out
        have H7Q := Lib.hid (HB7.out.below hBQ hbr)
        have hgr : g < wr.heap.size := (HN.out.lt g rfl).2
        clear hwq hBQ
        go_upto_region 7 with fail
        rw [HWQ.out]
        have PD7 : Hid (Blk7 wq.drew b 102 (.slice an ls.length cn) (.slice ao l.length co) (.slice as0 bs.length cs) (.slice ar rs.length cr) (.slice at0 ts.length ct) (.slice (some ⟨gm, om, none⟩) m.length cm) (.slice (some ⟨g, 0, none⟩) m.length m.length)) := H7Q.out.below (Below.drew (Below.refl _ _)) (Nat.lt_trans hbr hsq)
        have QD : Hid (Blk2 wq.drew wr.heap.size 75 (.string ⟨q1.toArray⟩) (.int .i64 q2)) := Q0.out.below (Below.drew (Below.refl _ _)) hsq
        have ND : Hid (wq.drew.ownsRow w2.heap.size 75 2 (.slice (some ⟨g, 0, none⟩) m.length m.length) m.length (RC (m.take k) ++ RC (noRes :: List.replicate (m.length - (k + 1)) noRes))) := HNQ.out
        have HK6 : Hid (∀ W, Below wq.drew.heap.size wq.drew W → W.cell? ⟨b, 6, none⟩ = some (.slice (some ⟨g, 0, none⟩) m.length m.length) ∧ (W.cell? ⟨wr.heap.size, 0, none⟩ = some (.string ⟨q1.toArray⟩) ∧ W.cell? ⟨wr.heap.size, 1, none⟩ = some (.int .i64 q2))) := fun W h => ⟨(PD7.out.below h (Nat.lt_trans hbr hsq)).cells.2.2.2.2.2.2, (QD.out.below h hsq).cells⟩
        have HK7 : Hid (∀ W, Below wq.drew.heap.size wq.drew W → (W.cell? ⟨g, k * 2, none⟩ = some (.string ByteArray.empty) ∧ W.cell? ⟨g, k * 2 + 1, none⟩ = some (.int .i64 0)) ∧ (W.frozen? ⟨g, k * 2, none⟩ = false ∧ W.frozen? ⟨g, k * 2 + 1, none⟩ = false)) := fun W h => by
          have hO := own_belowG ND.out h
          refine ⟨⟨?_, ?_⟩, hO.frozenAt _, hO.frozenAt _⟩
          · rw [hO.cellAt (k * 2) (by omega), HE2.out.1]; rfl
          · rw [hO.cellAt (k * 2 + 1) (by omega), HE2.out.2]; rfl
        have ks := HK6.out wq.drew (Below.refl _ _)
        have HCL := Lib.hid (fun W => ownRes8_any (q1, q2) W (by show q1.length ≤ 1000; omega))
        unfold resV at HCL
        simp only at HCL
        have hqg : wr.heap.size ≠ g := by omega
        go_region_held3 (fun w' => w'.cell? ⟨b, 6, none⟩ = some (.slice (some ⟨g, 0, none⟩) m.length m.length) ∧ (w'.cell? ⟨wr.heap.size, 0, none⟩ = some (.string ⟨q1.toArray⟩) ∧ w'.cell? ⟨wr.heap.size, 1, none⟩ = some (.int .i64 q2))) (first | exact ks | (rw [set_ne _ _ hbg, set_ne _ _ hbg, set_ne _ _ hqg, set_ne _ _ hqg, set_ne _ _ hqg, set_ne _ _ hqg]; exact ks))
          (first
            | (go_at_call 90; refine (HCL.out _).mono ?_; rintro e w8 ⟨rfl, hb8⟩
               have ks := HK6.out _ hb8
               obtain ⟨⟨f0, f1⟩, f2, f3⟩ := HK7.out _ hb8
               have C8 := Lib.hid hb8
               clear hb8))
        all_goals
          have HN1 := Lib.hid (own_belowG (w := wq.drew) (show wq.drew.ownsRow w2.heap.size 75 2 _ _ _ from HNQ.out) C8.out)
          have hb28 : Below w2.heap.size w2 w8 := (Below.drew HBQ.out).trans (C8.out.mono (Nat.le_trans hbs (Nat.le_of_lt hsq)))
          have hst := HN1.out.stored (k * 2) (.string ⟨q1.toArray⟩)
          have hst2 := hst.1.stored (k * 2 + 1) (.int .i64 q2)
          rw [HE.out] at hst2
          have HN2 := Lib.hid hst2.1
          have HB2 := Lib.hid ((hb28.trans (only_below hst.2 hg0 hb28.size)).trans (only_below hst2.2 hg0 (Nat.le_trans hb28.size hst.2.size)))
          have H72 := Lib.hid (((PD7.out.below C8.out (Nat.lt_trans hbr hsq)).other (p := ⟨g, k * 2, none⟩) hbg (.string ⟨q1.toArray⟩)).other (p := ⟨g, k * 2 + 1, none⟩) hbg (.int .i64 q2))
          clear hst hst2 hb28 ks
          go_wp2_with fail
          go_roundw
          case rel => exact ⟨k + 1, by omega, by go_num, HN2, HB2, H72⟩
          case measure => simp [intOf]; omega
      · have HN1 : Hid (wr.ownsRow w2.heap.size 75 2 (.slice (some ⟨g, 0, none⟩) m.length m.length) m.length (RC m)) := by
          have := HN.out
          rw [List.take_of_length_le (by omega), show m.length - k = 0 by omega] at this
          simpa [RC, Hid] using this
        have KW := Lib.hid (bth HA.out (bth K2.out HB.out (Nat.le_refl _)) (Nat.le_refl _))
        have KR := Lib.hid (bth K2.out HB.out (Nat.le_refl _))
        clear HN HATM HSM
        obtain ⟨y0, y1, y2, y3, y4, y5, y6⟩ := HB7.out.cells
        have hRB := R0.out.below KR.out hsz1
        have HRB := Lib.hid hRB
        obtain ⟨r0, r1, r2, r3, r4, r5, r6⟩ := hRB.cells
        have z0 := hRB.soft 0
        have z1 := hRB.soft 1
        have z2 := hRB.soft 2
        have z3 := hRB.soft 3
        have z4 := hRB.soft 4
        have z5 := hRB.soft 5
        have z6 := hRB.soft 6
        clear hRB
        go_wp2_with fail
        have hZ := (((((((HRB.out.set0 (.slice an ls.length cn)).set1 (.slice ao l.length co)).set2 (.slice as0 bs.length cs)).set3 (.slice ar rs.length cr)).set4 (.slice at0 ts.length ct)).set5 (.slice am m.length cm)).set6 (.slice (some ⟨g, 0, none⟩) m.length m.length))
        refine bodyPost_ret (results_cell2 rfl rfl (load_rem hZ)) rfl ?_
        have hne : ∀ j : Nat, (Value.slice (some ⟨g, 0, none⟩) m.length m.length).ownBlock ≠ some (⟨w.heap.size + 1, j, none⟩ : Addr).block := fun j e => by
          have : g = w.heap.size + 1 := Option.some.inj e
          omega
        have hO : wr.ownsRow w.heap.size 75 2 (.slice (some ⟨g, 0, none⟩) m.length m.length) m.length (RC m) := own_baseG HN1.out (by omega)
        exact ⟨g, rfl, own_setNeG (own_setNeG (own_setNeG (own_setNeG (own_setNeG (own_setNeG (own_setNeG (hO) (hne 0) _) (hne 1) _) (hne 2) _) (hne 3) _) (hne 4) _) (hne 5) _) (hne 6) _, (((((((KW.out.setCell (p := ⟨w.heap.size + 1, 0, none⟩) (by show _ ≤ _ + 1; omega) _).setCell (p := ⟨w.heap.size + 1, 1, none⟩) (by show _ ≤ _ + 1; omega) _).setCell (p := ⟨w.heap.size + 1, 2, none⟩) (by show _ ≤ _ + 1; omega) _).setCell (p := ⟨w.heap.size + 1, 3, none⟩) (by show _ ≤ _ + 1; omega) _).setCell (p := ⟨w.heap.size + 1, 4, none⟩) (by show _ ≤ _ + 1; omega) _).setCell (p := ⟨w.heap.size + 1, 5, none⟩) (by show _ ≤ _ + 1; omega) _).setCell (p := ⟨w.heap.size + 1, 6, none⟩) (by show _ ≤ _ + 1; omega) _)⟩

end Go.Proofs.YtgolhfmmlanmlaaGreatDoor
