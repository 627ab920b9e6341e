/- Texts of one claim, joined in their order. -/
import Derived.Test.YtgolhfmmlanmlaaM3

/- Walks: those that need a task. -/
namespace Go.Proofs.Ytgolhfmmlanmlaa
open Go.RowKit Pth

/-- Those of the first k that need a task. -/
def usersK (ls : List (List Int)) (t : Int) (k : Nat) : List Int := (upto k).filter (fun i => hasL (needsAt ls i) t)
theorem usersK_yes {ls : List (List Int)} {t : Int} {k : Nat} (hk : k < ls.length) (h : hasL ls[k] t = true) : usersK ls t (k + 1) = usersK ls t k ++ [(k : Int)] := by
  unfold usersK
  rw [upto_succ, List.filter_append]
  simp [needsAt_get hk, h]
theorem usersK_no {ls : List (List Int)} {t : Int} {k : Nat} (hk : k < ls.length) (h : hasL ls[k] t = false) : usersK ls t (k + 1) = usersK ls t k := by
  unfold usersK
  rw [upto_succ, List.filter_append]
  simp [needsAt_get hk, h]
theorem usersK_len (ls : List (List Int)) (t : Int) (k : Nat) : (usersK ls t k).length ≤ k := by
  have := List.length_filter_le (fun i => hasL (needsAt ls i) t) (upto k)
  rw [upto_len] at this
  exact this
def usersL (ls : List (List Int)) (t : Int) : List Int := usersK ls t ls.length
theorem mem_users {ls : List (List Int)} {t x : Int} : x ∈ usersL ls t ↔ (0 ≤ x ∧ x < (ls.length : Int)) ∧ t ∈ needsAt ls x := by
  unfold usersL usersK
  rw [List.mem_filter, mem_upto, hasL, decide_eq_true_iff]

theorem none_ownZ (B e : Nat) (w : World) : w.ownsRow B e 1 (.slice none 0 0) ([] : List Int).length (I []) := ⟨rfl, .inl ⟨rfl, rfl⟩⟩
theorem own_Z {w : World} {B e : Nat} {v : Value} {l : List Int} (h : w.ownsRow B e 1 v l.length (I l)) : w.ownsRow B e 1 v (I l).length (I l) := by rw [I_len]; exact h
theorem own_Z2 {w : World} {B e : Nat} {v : Value} {l : List Int} {x : Int} (h : w.ownsRow B e 1 v (I l ++ [Value.int .i64 x]).length (I l ++ [Value.int .i64 x])) : w.ownsRow B e 1 v (l ++ [x]).length (I (l ++ [x])) := by
  rw [I_append, ← I_len (l ++ [x]), I_append]; exact h

set_option maxRecDepth 20000 in
set_option maxHeartbeats 2000000 in
theorem l5Users_any (ls : List (List Int)) (l : List Int) (t : Int) (v : Value) (w : World) (hst : GraphV w v ls l) (hn : ls.length ≤ 10) :
    Calls Try.prog 48 #[v, .int .i64 t] w (IntsPost w.heap.size (usersL ls t) w) := by
  obtain ⟨nv, ov, rfl, h1, h2⟩ := hst
  obtain ⟨an, cn, rfl, hn1, hn2, hat⟩ := h1.lists
  obtain ⟨ao, co, rfl, ho1, ho2, _⟩ := h2.ints
  clear h1 h2
  unfold maxLen at hn2 ho2
  obtain ⟨wa, hwa⟩ : ∃ wa, wa = w.alloc (.cells #[.slice an ls.length cn, .slice ao l.length co] 26) := ⟨_, rfl⟩
  have HA : Hid (Below w.heap.size w wa) := by rw [hwa]; exact (Below.refl w.heap.size w).alloc (Nat.le_refl _) _
  have HWA := Lib.hid hwa
  clear hwa
  go_enter Try.func48, Try.ntmps48
  go_wp2_with fail
  rw [← HWA.out]
  go_loopw [5, 11] (fun q i wr => ∃ k : Nat, k ≤ ls.length ∧ i = .int .i64 k ∧ Hid (Below w.heap.size w wr) ∧ Hid (wr.ownsRow w.heap.size 3 1 q (usersK ls t k).length (I (usersK ls t k)))) (fun _ i _ => ls.length - (intOf i).toNat)
  case atStart => exact ⟨0, Nat.zero_le _, rfl, HA.out, none_ownZ _ _ _⟩
  case round =>
    obtain ⟨k, hk, rfl, HB, HN⟩ := hrel
    have hbs := HB.out.size
    have hcl := usersK_len ls t k
    by_cases hlt : k < ls.length
    · obtain ⟨g, o, a2, c2, rfl, hg, hcell0, hrk⟩ := hat k hlt
      have hcell : wr.cell? ⟨g, o + k, none⟩ = some (.slice a2 ls[k].length c2) := by rw [HB.out.cell (p := ⟨g, o + k, none⟩) hg]; exact hcell0
      have CH := l1Has_any ls[k] t _ wr (hrk.below HB.out)
      clear hat hcell0 hrk
      rcases hh : hasL ls[k] t with _ | _
      · have HE := Lib.hid (usersK_no hlt hh)
        rw [hh] at CH
        have HC := Lib.hid CH
        clear CH hh
        generalize ls[k].length = n1 at *
        go_wp2_with fail
        refine HC.out.mono ?_
        rintro e w1 ⟨rfl, rfl⟩
        go_wp2_with fail
        go_roundw
        case rel => exact ⟨k + 1, by omega, by go_num, HB, by rw [HE.out]; exact HN.out⟩
        case measure => simp [intOf]; omega
      · have HE := Lib.hid (usersK_yes hlt hh)
        rw [hh] at CH
        have HC := Lib.hid CH
        have HNA := Lib.hid (own_Z HN.out)
        have hIl : (I (usersK ls t k)).length ≤ 1000000 := by rw [I_len]; omega
        clear CH hh HN
        generalize ls[k].length = n1 at *
        generalize usersK ls t k = m at *
        go_wp2_with fail
        refine HC.out.mono ?_
        rintro e w1 ⟨rfl, rfl⟩
        go_wp2_with (at_builtin; refine wpAppOne elemI rfl _ _ rfl w.heap.size _ (I m) rfl HNA.out _ rfl rfl rfl hIl HB.out.size ?_; intro v7 w7 hown7 hg7; have HN7 := Lib.hid (own_Z2 hown7); have HB7 := Lib.hid (HB.out.trans (below_own HNA.out hg7 HB.out.size)); clear hown7 hg7)
        go_roundw
        case rel => exact ⟨k + 1, by omega, by go_num, HB7, by rw [HE.out]; exact HN7.out⟩
        case measure => simp [intOf]; omega
    · obtain rfl : k = ls.length := by omega
      clear hat
      go_wp2_with fail
      go_ret
      exact ⟨_, rfl, HN.out, HB.out⟩

/-- A list of the call's own, and whether it is told. -/
def ListOk (m : List Int) (b : Bool) (w : World) (e : Ending) (w' : World) : Prop := ∃ v', e = .returned (.tuple #[v', .bool b]) ∧ w'.ownsRow w.heap.size 3 1 v' m.length (I m) ∧ Below w.heap.size w w'
noncomputable def usersA (ls : List (List Int)) (l : List Int) (t : Int) : List Int := if taskG ls l t then usersL ls t else []
theorem usersA_no {ls : List (List Int)} {l : List Int} {t : Int} (h : taskG ls l t = false) : usersA ls l t = [] := by unfold usersA; rw [h]; rfl
theorem usersA_yes {ls : List (List Int)} {l : List Int} {t : Int} (h : taskG ls l t = true) : usersA ls l t = usersL ls t := by unfold usersA; rw [h]; rfl
theorem usersA_short (ls : List (List Int)) (l : List Int) (t : Int) : (usersA ls l t).length ≤ 1000000 := by
  rcases h : taskG ls l t with _ | _
  · rw [usersA_no h]; simp
  · rw [usersA_yes h]
    have h1 := (taskG_yes h).1.high
    have h2 := usersK_len ls t ls.length
    unfold usersL
    omega

set_option maxRecDepth 20000 in
set_option maxHeartbeats 4000000 in
theorem implUsers_any (ls : List (List Int)) (l : List Int) (t : Int) (v : Value) (w : World) (hst : GraphV w v ls l) :
    Calls Try.prog 70 #[v, .int .i64 t] w (ListOk (usersA ls l t) (taskG ls l t) w) := by
  have HV := Lib.hid hst
  obtain ⟨nv, ov, rfl, h1, h2⟩ := hst
  obtain ⟨an, cn, rfl, hn1, hn2, hat⟩ := h1.lists
  obtain ⟨ao, co, rfl, ho1, ho2, _⟩ := h2.ints
  clear h1 h2
  unfold maxLen at hn2 ho2
  obtain ⟨wa, hwa⟩ : ∃ wa, wa = w.alloc (.cells #[.slice an ls.length cn, .slice ao l.length co] 26) := ⟨_, rfl⟩
  have P0 : Hid (Blk2 wa w.heap.size 26 (.slice an ls.length cn) (.slice ao l.length co)) := by rw [hwa]; exact Blk2.new
  have HA : Hid (Below w.heap.size w wa) := by rw [hwa]; exact (Below.refl w.heap.size w).alloc (Nat.le_refl _) _
  have hsz : w.heap.size < wa.heap.size := by rw [hwa]; simp
  have HWA := Lib.hid hwa
  have c0 := P0.out.cells.1
  have c1 := P0.out.cells.2
  have HC := implGood_any ls l _ wa (HV.out.below HA.out)
  clear hwa
  rcases hG : goodG ls l with _ | _
  · rw [usersA_no (taskG_good hG), taskG_good hG]
    rw [hG] at HC
    have HCC := Lib.hid HC
    clear HC hG hat
    go_enter Try.func70, Try.ntmps70
    go_wp2_with fail
    rw [← HWA.out]
    refine HCC.out.mono ?_
    rintro e w1 ⟨rfl, hb1⟩
    have HB1 := Lib.hid (bth HA.out hb1 (Nat.le_refl _))
    clear hb1 c0 c1
    go_wp2_with fail
    go_ret2
    exact ⟨_, rfl, none_ownZ _ _ _, HB1.out⟩
  · have hn : ls.length ≤ 10 := (goodG_iff.1 hG).high
    have hT := taskG_in (k := t) hG
    rw [hG] at HC
    have HCC := Lib.hid HC
    rcases hb : (decide (0 ≤ t) && decide (t < (ls.length : Int))) with _ | _
    · rw [hb] at hT
      rw [usersA_no hT, hT]
      have HI := Lib.hid (fun W (h : GraphV W _ ls l) => isTask_b (v := .agg #[.slice an ls.length cn, .slice ao l.length co]) (w := W) h hb)
      clear HC hG hb hT hat
      go_enter Try.func70, Try.ntmps70
      go_wp2_with fail
      rw [← HWA.out]
      refine HCC.out.mono ?_
      rintro e w1 ⟨rfl, hb1⟩
      have HB1 := Lib.hid (bth HA.out hb1 (Nat.le_refl _))
      have P1 := Lib.hid (P0.out.below hb1 hsz)
      have d0 := P1.out.cells.1
      have d1 := P1.out.cells.2
      clear hb1 c0 c1
      go_wp2_with fail
      refine (HI.out _ (HV.out.below HB1.out)).mono ?_
      rintro e w2 ⟨rfl, hb2⟩
      have HB2 := Lib.hid (bth HB1.out hb2 (Nat.le_refl _))
      clear hb2 d0 d1
      go_wp2_with fail
      go_ret2
      exact ⟨_, rfl, none_ownZ _ _ _, HB2.out⟩
    · rw [hb] at hT
      rw [usersA_yes hT, hT]
      have HI := Lib.hid (fun W (h : GraphV W _ ls l) => isTask_b (v := .agg #[.slice an ls.length cn, .slice ao l.length co]) (w := W) h hb)
      clear HC hG hb hT
      go_enter Try.func70, Try.ntmps70
      go_wp2_with fail
      rw [← HWA.out]
      refine HCC.out.mono ?_
      rintro e w1 ⟨rfl, hb1⟩
      have HB1 := Lib.hid (bth HA.out hb1 (Nat.le_refl _))
      have P1 := Lib.hid (P0.out.below hb1 hsz)
      have d0 := P1.out.cells.1
      have d1 := P1.out.cells.2
      have hsz1 := Nat.lt_of_lt_of_le hsz hb1.size
      clear hb1 c0 c1
      go_wp2_with fail
      refine (HI.out _ (HV.out.below HB1.out)).mono ?_
      rintro e w2 ⟨rfl, hb2⟩
      have HB2 := Lib.hid (bth HB1.out hb2 (Nat.le_refl _))
      have e0 := (P1.out.below hb2 hsz1).cells.1
      clear hb2 d0 d1
      go_wp2_with fail
      clear e0
      go_loopw [6, 21] (fun q i wr => ∃ k : Nat, k ≤ ls.length ∧ i = .int .i64 k ∧ Hid (Below w.heap.size w wr) ∧ Hid (wr.ownsRow w.heap.size 3 1 q (usersK ls t k).length (I (usersK ls t k)))) (fun _ i _ => ls.length - (intOf i).toNat)
      case atStart => exact ⟨0, Nat.zero_le _, rfl, HB2.out, none_ownZ _ _ _⟩
      case round =>
        obtain ⟨k, hk, rfl, HB, HN⟩ := hrel
        have hbs := HB.out.size
        have hcl := usersK_len ls t k
        by_cases hlt : k < ls.length
        · obtain ⟨g, o, a2, c2, rfl, hg, hcell0, hrk⟩ := hat k hlt
          have hcell : wr.cell? ⟨g, o + k, none⟩ = some (.slice a2 ls[k].length c2) := by rw [HB.out.cell (p := ⟨g, o + k, none⟩) hg]; exact hcell0
          have CH := contains_any ls[k] t _ wr (hrk.below HB.out)
          clear hat hcell0 hrk
          rcases hh : hasL ls[k] t with _ | _
          · have HE := Lib.hid (usersK_no hlt hh)
            rw [hh] at CH
            have HC := Lib.hid CH
            clear CH hh
            generalize ls[k].length = n1 at *
            go_wp2_with fail
            refine HC.out.mono ?_
            rintro e w1 ⟨rfl, rfl⟩
            go_wp2_with fail
            go_roundw
            case rel => exact ⟨k + 1, by omega, by go_num, HB, by rw [HE.out]; exact HN.out⟩
            case measure => simp [intOf]; omega
          · have HE := Lib.hid (usersK_yes hlt hh)
            rw [hh] at CH
            have HC := Lib.hid CH
            have HNA := Lib.hid (own_Z HN.out)
            have hIl : (I (usersK ls t k)).length ≤ 1000000 := by rw [I_len]; omega
            clear CH hh HN
            generalize ls[k].length = n1 at *
            generalize usersK ls t k = m at *
            go_wp2_with fail
            refine HC.out.mono ?_
            rintro e w1 ⟨rfl, rfl⟩
            go_wp2_with (at_builtin; refine wpAppOne elemI rfl _ _ rfl w.heap.size _ (I m) rfl HNA.out _ rfl rfl rfl hIl HB.out.size ?_; intro v7 w7 hown7 hg7; have HN7 := Lib.hid (own_Z2 hown7); have HB7 := Lib.hid (HB.out.trans (below_own HNA.out hg7 HB.out.size)); clear hown7 hg7)
            go_roundw
            case rel => exact ⟨k + 1, by omega, by go_num, HB7, by rw [HE.out]; exact HN7.out⟩
            case measure => simp [intOf]; omega
        · obtain rfl : k = ls.length := by omega
          clear hat
          go_wp2_with fail
          go_ret2
          exact ⟨_, rfl, HN.out, HB.out⟩
end Go.Proofs.Ytgolhfmmlanmlaa
