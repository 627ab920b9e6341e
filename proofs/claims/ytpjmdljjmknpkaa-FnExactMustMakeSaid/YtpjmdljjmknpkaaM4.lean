/- Texts of one claim, joined in their order. -/
import Derived.Deep.CutBlock
import Derived.ArgAppend
import Derived.Laws.CopyOwn
import Derived.Test.YtpjmdljjmknpkaaM3

/- Walks: those that need a task. -/
namespace Go.Proofs.Ytpjmdljjmknpkaa
open Go.RowKit Pth

/-- Those of the first k that need a task. -/
def usersK (ls : List (List Int)) (t : Int) (k : Nat) : List Int := (upto k).filter (fun i => hasL (needsAt ls i) t)
theorem usersK_yes {ls : List (List Int)} {t : Int} {k : Nat} (hk : k < ls.length) (h : hasL ls[k] t = true) : usersK ls t (k + 1) = usersK ls t k ++ [(k : Int)] := by
  unfold usersK
  rw [upto_succ, List.filter_append]
  simp [needsAt_get hk, h]
theorem usersK_no {ls : List (List Int)} {t : Int} {k : Nat} (hk : k < ls.length) (h : hasL ls[k] t = false) : usersK ls t (k + 1) = usersK ls t k := by
  unfold usersK
  rw [upto_succ, List.filter_append]
  simp [needsAt_get hk, h]
theorem usersK_len (ls : List (List Int)) (t : Int) (k : Nat) : (usersK ls t k).length ≤ k := by
  have := List.length_filter_le (fun i => hasL (needsAt ls i) t) (upto k)
  rw [upto_len] at this
  exact this
def usersL (ls : List (List Int)) (t : Int) : List Int := usersK ls t ls.length
theorem mem_users {ls : List (List Int)} {t x : Int} : x ∈ usersL ls t ↔ (0 ≤ x ∧ x < (ls.length : Int)) ∧ t ∈ needsAt ls x := by
  unfold usersL usersK
  rw [List.mem_filter, mem_upto, hasL, decide_eq_true_iff]

theorem none_ownZ (B e : Nat) (w : World) : w.ownsRow B e 1 (.slice none 0 0) ([] : List Int).length (I []) := ⟨rfl, .inl ⟨rfl, rfl⟩⟩
theorem own_Z {w : World} {B e : Nat} {v : Value} {l : List Int} (h : w.ownsRow B e 1 v l.length (I l)) : w.ownsRow B e 1 v (I l).length (I l) := by rw [I_len]; exact h
theorem own_Z2 {w : World} {B e : Nat} {v : Value} {l : List Int} {x : Int} (h : w.ownsRow B e 1 v (I l ++ [Value.int .i64 x]).length (I l ++ [Value.int .i64 x])) : w.ownsRow B e 1 v (l ++ [x]).length (I (l ++ [x])) := by
  rw [I_append, ← I_len (l ++ [x]), I_append]; exact h

set_option maxRecDepth 20000 in
set_option maxHeartbeats 2000000 in
theorem l5Users_any (ls : List (List Int)) (l : List Int) (t : Int) (v : Value) (w : World) (hst : GraphV w v ls l) (hn : ls.length ≤ 10) :
    Calls Try.prog 90 #[v, .int .i64 t] w (IntsPost w.heap.size (usersL ls t) w) := by
  obtain ⟨nv, ov, rfl, h1, h2⟩ := hst
  obtain ⟨an, cn, rfl, hn1, hn2, hat⟩ := h1.lists
  obtain ⟨ao, co, rfl, ho1, ho2, _⟩ := h2.ints
  clear h1 h2
  unfold maxLen at hn2 ho2
  obtain ⟨wa, hwa⟩ : ∃ wa, wa = w.alloc (.cells #[.slice an ls.length cn, .slice ao l.length co] 26) := ⟨_, rfl⟩
  have HA : Hid (Below w.heap.size w wa) := by rw [hwa]; exact (Below.refl w.heap.size w).alloc (Nat.le_refl _) _
  have HWA := Lib.hid hwa
  clear hwa
  go_enter Try.func90, Try.ntmps90
  go_wp2_with fail
  rw [← HWA.out]
  go_loopw [5, 11] (fun q i wr => ∃ k : Nat, k ≤ ls.length ∧ i = .int .i64 k ∧ Hid (Below w.heap.size w wr) ∧ Hid (wr.ownsRow w.heap.size 3 1 q (usersK ls t k).length (I (usersK ls t k)))) (fun _ i _ => ls.length - (intOf i).toNat)
  case atStart => exact ⟨0, Nat.zero_le _, rfl, HA.out, none_ownZ _ _ _⟩
  case round =>
    obtain ⟨k, hk, rfl, HB, HN⟩ := hrel
    have hbs := HB.out.size
    have hcl := usersK_len ls t k
    by_cases hlt : k < ls.length
    · obtain ⟨g, o, a2, c2, rfl, hg, hcell0, hrk⟩ := hat k hlt
      have hcell : wr.cell? ⟨g, o + k, none⟩ = some (.slice a2 ls[k].length c2) := by rw [HB.out.cell (p := ⟨g, o + k, none⟩) hg]; exact hcell0
      have CH := l1Has_any ls[k] t _ wr (hrk.below HB.out)
      clear hat hcell0 hrk
      rcases hh : hasL ls[k] t with _ | _
      · have HE := Lib.hid (usersK_no hlt hh)
        rw [hh] at CH
        have HC := Lib.hid CH
        clear CH hh
        generalize ls[k].length = n1 at *
        go_wp2_with fail
        refine HC.out.mono ?_
        rintro e w1 ⟨rfl, rfl⟩
        go_wp2_with fail
        go_roundw
        case rel => exact ⟨k + 1, by omega, by go_num, HB, by rw [HE.out]; exact HN.out⟩
        case measure => simp [intOf]; omega
      · have HE := Lib.hid (usersK_yes hlt hh)
        rw [hh] at CH
        have HC := Lib.hid CH
        have HNA := Lib.hid (own_Z HN.out)
        have hIl : (I (usersK ls t k)).length ≤ 1000000 := by rw [I_len]; omega
        clear CH hh HN
        generalize ls[k].length = n1 at *
        generalize usersK ls t k = m at *
        go_wp2_with fail
        refine HC.out.mono ?_
        rintro e w1 ⟨rfl, rfl⟩
        go_wp2_with (at_builtin; refine wpAppOne elemI rfl _ _ rfl w.heap.size _ (I m) rfl HNA.out _ rfl rfl rfl hIl HB.out.size ?_; intro v7 w7 hown7 hg7; have HN7 := Lib.hid (own_Z2 hown7); have HB7 := Lib.hid (HB.out.trans (below_own HNA.out hg7 HB.out.size)); clear hown7 hg7)
        go_roundw
        case rel => exact ⟨k + 1, by omega, by go_num, HB7, by rw [HE.out]; exact HN7.out⟩
        case measure => simp [intOf]; omega
    · obtain rfl : k = ls.length := by omega
      clear hat
      go_wp2_with fail
      go_ret
      exact ⟨_, rfl, HN.out, HB.out⟩

/-- A list of the call's own, and whether it is told. -/
def ListOk (m : List Int) (b : Bool) (w : World) (e : Ending) (w' : World) : Prop := ∃ v', e = .returned (.tuple #[v', .bool b]) ∧ w'.ownsRow w.heap.size 3 1 v' m.length (I m) ∧ Below w.heap.size w w'
noncomputable def usersA (ls : List (List Int)) (l : List Int) (t : Int) : List Int := if taskG ls l t then usersL ls t else []
theorem usersA_no {ls : List (List Int)} {l : List Int} {t : Int} (h : taskG ls l t = false) : usersA ls l t = [] := by unfold usersA; rw [h]; rfl
theorem usersA_yes {ls : List (List Int)} {l : List Int} {t : Int} (h : taskG ls l t = true) : usersA ls l t = usersL ls t := by unfold usersA; rw [h]; rfl
theorem usersA_short (ls : List (List Int)) (l : List Int) (t : Int) : (usersA ls l t).length ≤ 1000000 := by
  rcases h : taskG ls l t with _ | _
  · rw [usersA_no h]; simp
  · rw [usersA_yes h]
    have h1 := (taskG_yes h).1.high
    have h2 := usersK_len ls t ls.length
    unfold usersL
    omega

set_option maxRecDepth 20000 in
set_option maxHeartbeats 2000000 in
theorem specUsers_any (ls : List (List Int)) (l : List Int) (t : Int) (v : Value) (w : World) (hst : GraphV w v ls l) :
    Calls Try.prog 35 #[v, .int .i64 t] w (ListOk (usersA ls l t) (taskG ls l t) w) := by
  have HV := Lib.hid hst
  obtain ⟨nv, ov, rfl, h1, h2⟩ := hst
  obtain ⟨an, cn, rfl, hn1, hn2, _⟩ := h1.lists
  obtain ⟨ao, co, rfl, ho1, ho2, _⟩ := h2.ints
  clear h1 h2
  unfold maxLen at hn2 ho2
  obtain ⟨wa, hwa⟩ : ∃ wa, wa = w.alloc (.cells #[.slice an ls.length cn, .slice ao l.length co] 26) := ⟨_, rfl⟩
  have P0 : Hid (Blk2 wa w.heap.size 26 (.slice an ls.length cn) (.slice ao l.length co)) := by rw [hwa]; exact Blk2.new
  have HA : Hid (Below w.heap.size w wa) := by rw [hwa]; exact (Below.refl w.heap.size w).alloc (Nat.le_refl _) _
  have hsz : w.heap.size < wa.heap.size := by rw [hwa]; simp
  have HWA := Lib.hid hwa
  have c0 := P0.out.cells.1
  have c1 := P0.out.cells.2
  have HC := l5Task_any ls l t _ wa (HV.out.below HA.out)
  clear hwa
  rcases hG : taskG ls l t with _ | _
  · rw [hG] at HC
    have HCC := Lib.hid HC
    rw [usersA_no hG]
    clear HC hG
    go_enter Try.func35, Try.ntmps35
    go_wp2_with fail
    rw [← HWA.out]
    refine HCC.out.mono ?_
    rintro e w1 ⟨rfl, hb1⟩
    have HB1 := Lib.hid (bth HA.out hb1 (Nat.le_refl _))
    have d0 := (P0.out.below hb1 hsz).cells.1
    have d1 := (P0.out.below hb1 hsz).cells.2
    clear hb1 c0 c1
    go_wp2_with fail
    go_ret2
    exact ⟨_, rfl, none_ownZ _ _ _, HB1.out⟩
  · rw [hG] at HC
    have HCC := Lib.hid HC
    rw [usersA_yes hG]
    have hn : ls.length ≤ 10 := (taskG_yes hG).1.high
    clear HC hG
    go_enter Try.func35, Try.ntmps35
    go_wp2_with fail
    rw [← HWA.out]
    refine HCC.out.mono ?_
    rintro e w1 ⟨rfl, hb1⟩
    have HB1 := Lib.hid (bth HA.out hb1 (Nat.le_refl _))
    have d0 := (P0.out.below hb1 hsz).cells.1
    have d1 := (P0.out.below hb1 hsz).cells.2
    have HU := Lib.hid (l5Users_any ls l t _ w1 (HV.out.below HB1.out) hn)
    clear hb1 c0 c1
    go_wp2_with fail
    refine HU.out.mono ?_
    rintro e w2 ⟨v2, rfl, ho, hb2⟩
    have HO2 := Lib.hid (own_base ho HB1.out.size)
    have HB2 := Lib.hid (bth HB1.out hb2 (Nat.le_refl _))
    clear ho hb2
    go_wp2_with fail
    go_ret2
    exact ⟨_, rfl, HO2.out, HB2.out⟩

set_option maxRecDepth 20000 in
set_option maxHeartbeats 4000000 in
theorem implUsers_any (ls : List (List Int)) (l : List Int) (t : Int) (v : Value) (w : World) (hst : GraphV w v ls l) :
    Calls Try.prog 34 #[v, .int .i64 t] w (ListOk (usersA ls l t) (taskG ls l t) w) := by
  have HV := Lib.hid hst
  obtain ⟨nv, ov, rfl, h1, h2⟩ := hst
  obtain ⟨an, cn, rfl, hn1, hn2, hat⟩ := h1.lists
  obtain ⟨ao, co, rfl, ho1, ho2, _⟩ := h2.ints
  clear h1 h2
  unfold maxLen at hn2 ho2
  obtain ⟨wa, hwa⟩ : ∃ wa, wa = w.alloc (.cells #[.slice an ls.length cn, .slice ao l.length co] 26) := ⟨_, rfl⟩
  have P0 : Hid (Blk2 wa w.heap.size 26 (.slice an ls.length cn) (.slice ao l.length co)) := by rw [hwa]; exact Blk2.new
  have HA : Hid (Below w.heap.size w wa) := by rw [hwa]; exact (Below.refl w.heap.size w).alloc (Nat.le_refl _) _
  have hsz : w.heap.size < wa.heap.size := by rw [hwa]; simp
  have HWA := Lib.hid hwa
  have c0 := P0.out.cells.1
  have c1 := P0.out.cells.2
  have HC := implGood_any ls l _ wa (HV.out.below HA.out)
  clear hwa
  rcases hG : goodG ls l with _ | _
  · rw [usersA_no (taskG_good hG), taskG_good hG]
    rw [hG] at HC
    have HCC := Lib.hid HC
    clear HC hG hat
    go_enter Try.func34, Try.ntmps34
    go_wp2_with fail
    rw [← HWA.out]
    refine HCC.out.mono ?_
    rintro e w1 ⟨rfl, hb1⟩
    have HB1 := Lib.hid (bth HA.out hb1 (Nat.le_refl _))
    clear hb1 c0 c1
    go_wp2_with fail
    go_ret2
    exact ⟨_, rfl, none_ownZ _ _ _, HB1.out⟩
  · have hn : ls.length ≤ 10 := (goodG_iff.1 hG).high
    have hT := taskG_in (k := t) hG
    rw [hG] at HC
    have HCC := Lib.hid HC
    rcases hb : (decide (0 ≤ t) && decide (t < (ls.length : Int))) with _ | _
    · rw [hb] at hT
      rw [usersA_no hT, hT]
      have HI := Lib.hid (fun W (h : GraphV W _ ls l) => isTask_b (v := .agg #[.slice an ls.length cn, .slice ao l.length co]) (w := W) h hb)
      clear HC hG hb hT hat
      go_enter Try.func34, Try.ntmps34
      go_wp2_with fail
      rw [← HWA.out]
      refine HCC.out.mono ?_
      rintro e w1 ⟨rfl, hb1⟩
      have HB1 := Lib.hid (bth HA.out hb1 (Nat.le_refl _))
      have P1 := Lib.hid (P0.out.below hb1 hsz)
      have d0 := P1.out.cells.1
      have d1 := P1.out.cells.2
      clear hb1 c0 c1
      go_wp2_with fail
      refine (HI.out _ (HV.out.below HB1.out)).mono ?_
      rintro e w2 ⟨rfl, hb2⟩
      have HB2 := Lib.hid (bth HB1.out hb2 (Nat.le_refl _))
      clear hb2 d0 d1
      go_wp2_with fail
      go_ret2
      exact ⟨_, rfl, none_ownZ _ _ _, HB2.out⟩
    · rw [hb] at hT
      rw [usersA_yes hT, hT]
      have HI := Lib.hid (fun W (h : GraphV W _ ls l) => isTask_b (v := .agg #[.slice an ls.length cn, .slice ao l.length co]) (w := W) h hb)
      clear HC hG hb hT
      go_enter Try.func34, Try.ntmps34
      go_wp2_with fail
      rw [← HWA.out]
      refine HCC.out.mono ?_
      rintro e w1 ⟨rfl, hb1⟩
      have HB1 := Lib.hid (bth HA.out hb1 (Nat.le_refl _))
      have P1 := Lib.hid (P0.out.below hb1 hsz)
      have d0 := P1.out.cells.1
      have d1 := P1.out.cells.2
      have hsz1 := Nat.lt_of_lt_of_le hsz hb1.size
      clear hb1 c0 c1
      go_wp2_with fail
      refine (HI.out _ (HV.out.below HB1.out)).mono ?_
      rintro e w2 ⟨rfl, hb2⟩
      have HB2 := Lib.hid (bth HB1.out hb2 (Nat.le_refl _))
      have e0 := (P1.out.below hb2 hsz1).cells.1
      clear hb2 d0 d1
      go_wp2_with fail
      clear e0
      go_loopw [6, 21] (fun q i wr => ∃ k : Nat, k ≤ ls.length ∧ i = .int .i64 k ∧ Hid (Below w.heap.size w wr) ∧ Hid (wr.ownsRow w.heap.size 3 1 q (usersK ls t k).length (I (usersK ls t k)))) (fun _ i _ => ls.length - (intOf i).toNat)
      case atStart => exact ⟨0, Nat.zero_le _, rfl, HB2.out, none_ownZ _ _ _⟩
      case round =>
        obtain ⟨k, hk, rfl, HB, HN⟩ := hrel
        have hbs := HB.out.size
        have hcl := usersK_len ls t k
        by_cases hlt : k < ls.length
        · obtain ⟨g, o, a2, c2, rfl, hg, hcell0, hrk⟩ := hat k hlt
          have hcell : wr.cell? ⟨g, o + k, none⟩ = some (.slice a2 ls[k].length c2) := by rw [HB.out.cell (p := ⟨g, o + k, none⟩) hg]; exact hcell0
          have CH := contains_any ls[k] t _ wr (hrk.below HB.out)
          clear hat hcell0 hrk
          rcases hh : hasL ls[k] t with _ | _
          · have HE := Lib.hid (usersK_no hlt hh)
            rw [hh] at CH
            have HC := Lib.hid CH
            clear CH hh
            generalize ls[k].length = n1 at *
            go_wp2_with fail
            refine HC.out.mono ?_
            rintro e w1 ⟨rfl, rfl⟩
            go_wp2_with fail
            go_roundw
            case rel => exact ⟨k + 1, by omega, by go_num, HB, by rw [HE.out]; exact HN.out⟩
            case measure => simp [intOf]; omega
          · have HE := Lib.hid (usersK_yes hlt hh)
            rw [hh] at CH
            have HC := Lib.hid CH
            have HNA := Lib.hid (own_Z HN.out)
            have hIl : (I (usersK ls t k)).length ≤ 1000000 := by rw [I_len]; omega
            clear CH hh HN
            generalize ls[k].length = n1 at *
            generalize usersK ls t k = m at *
            go_wp2_with fail
            refine HC.out.mono ?_
            rintro e w1 ⟨rfl, rfl⟩
            go_wp2_with (at_builtin; refine wpAppOne elemI rfl _ _ rfl w.heap.size _ (I m) rfl HNA.out _ rfl rfl rfl hIl HB.out.size ?_; intro v7 w7 hown7 hg7; have HN7 := Lib.hid (own_Z2 hown7); have HB7 := Lib.hid (HB.out.trans (below_own HNA.out hg7 HB.out.size)); clear hown7 hg7)
            go_roundw
            case rel => exact ⟨k + 1, by omega, by go_num, HB7, by rw [HE.out]; exact HN7.out⟩
            case measure => simp [intOf]; omega
        · obtain rfl : k = ls.length := by omega
          clear hat
          go_wp2_with fail
          go_ret2
          exact ⟨_, rfl, HN.out, HB.out⟩
end Go.Proofs.Ytpjmdljjmknpkaa

/- Walks: the laws over a graph and lists that what must be made is told alike, given contracts of both programs. -/
namespace Go.Proofs.Ytpjmdljjmknpkaa
open Go.RowKit Pth

set_option maxHeartbeats 1000000 in
theorem markIntS_big (l : List Int) (k : Nat) (B : Nat) (v : Value) (w : World) (hown : w.ownsRow B 3 1 v l.length (I l)) (hl : l.length ≤ 2000000) (hk : k ≤ 8000000) :
    Calls Try.prog 64 #[v, .int .i64 (k : Int)] w (Marked B v k l.length w) := by
  have HW := Lib.hid hown
  obtain ⟨a, cap, rfl⟩ := own_slice hown
  clear hown
  go_enter Try.func64, Try.ntmps64
  go_wp2_with fail
  go_loopw [1, 5] (fun q i wr => ∃ j : Nat, j ≤ l.length ∧ q = .int .i64 ((k : Int) + (j : Int)) ∧ i = .int .i64 j ∧ wr.ownsRow B 3 1 (.slice a l.length cap) l.length (I (marks k j) ++ (I l).drop j) ∧ w.grownBy wr (Value.slice a l.length cap).ownBlock) (fun _ i _ => l.length - (intOf i).toNat)
  case atStart => exact ⟨0, Nat.zero_le _, by simp, rfl, HW.out, grown_refl _ _⟩
  case round =>
    clear HW
    obtain ⟨j, hj, rfl, rfl, hown, hg⟩ := hrel
    by_cases hlt : j < l.length
    · obtain ⟨g, c2, hv⟩ : ∃ g c2, (Value.slice a l.length cap) = .slice (some ⟨g, 0, none⟩) l.length c2 := by
        rcases hown.2 with ⟨_, h0⟩ | ⟨g, c2, cur, hv, _⟩
        · omega
        · exact ⟨g, c2, hv⟩
      injection hv with hv1 hv2 hv3
      subst hv1
      have hfz := hown.frozenAt j
      have hcz : wr.cell? ⟨g, j, none⟩ = some (.int .i64 l[j]) := by rw [hown.cellAt j (by omega), mark_get k l j hlt]
      have hst := hown.stored j (.int .i64 ((k : Int) + (j : Int)))
      rw [mark_set k l j hlt] at hst
      have HN1 := Lib.hid hst.1
      have HG1 := Lib.hid (grown_trans hg hst.2)
      have hc4 : l.length ≤ cap := by
        rcases hown.2 with ⟨_, h0⟩ | ⟨g, c2, cur, hv, _, _, h5, _⟩
        · omega
        · injection hv with _ _ hv3; omega
      clear hown hg hst hv2 hv3
      generalize l[j] = x at hcz
      go_wp2_with fail
      go_roundw
      case rel => exact ⟨j + 1, by omega, by go_num, by go_num, HN1.out, HG1.out⟩
      case measure => simp [intOf]; omega
    · obtain rfl : j = l.length := by omega
      have e : (I l).drop l.length = [] := List.drop_of_length_le (by rw [I_len]; omega)
      rw [e, List.append_nil] at hown
      have HN := Lib.hid hown
      have HG := Lib.hid hg
      clear hown hg e
      go_wp2_with fail
      go_ret
      exact ⟨rfl, HN.out, HG.out⟩

theorem markIntS_L {l : List Int} {k B : Nat} {i r : Int} {v : Value} {w : World} (hi : (k : Int) = i) (hr : r = (k : Int) + (l.length : Int)) (hown : w.ownsRow B 3 1 v l.length (I l)) (hl : l.length ≤ 2000000) (hk : k ≤ 8000000) :
    Calls Try.prog 64 #[v, .int .i64 i] w fun e w' => e = .returned (.int .i64 r) ∧ w'.ownsRow B 3 1 v l.length (I (marks (k : Int) l.length)) ∧ w.grownBy w' v.ownBlock := by
  subst hi hr
  exact markIntS_big l k B v w hown hl hk

set_option maxRecDepth 20000 in
set_option maxHeartbeats 16000000 in
theorem exactMustMake_of (ls : List (List Int)) (l : List Int) (m1 : List Int) (m2 : List Int) (R : List Int) (ok : Bool) (v u1 u2 : Value) (w : World) (hst : GraphV w v ls l) (hm1 : RowV w u1 (I m1)) (hm2 : RowV w u2 (I m2)) (hL : R.length ≤ 1000000)
    (hsp : ∀ W u y1 y2, GraphV W u ls l → RowV W y1 (I m1) → RowV W y2 (I m2) → Calls Try.prog 45 #[u, y1, y2] W ((ListOk R ok W)))
    (him : ∀ W u y1 y2, GraphV W u ls l → RowV W y1 (I m1) → RowV W y2 (I m2) → Calls Try.prog 44 #[u, y1, y2] W ((ListOk R ok W))) :
    Calls Try.prog 10 #[v, u1, u2] w (YesZ w) := by
  have HST := Lib.hid hst
  have HSP := Lib.hid hsp
  have HIM := Lib.hid him
  clear hsp him
  obtain ⟨nv, ov, rfl, h1, h2⟩ := hst
  obtain ⟨an, cn, rfl, hn1, hn2, _⟩ := h1.lists
  obtain ⟨ao, co, rfl, ho1, ho2, _⟩ := h2.ints
  clear h1 h2
  have HM1 := Lib.hid hm1
  obtain ⟨ma1, mc1, rfl, hma1, hmb1, _⟩ := hm1.ints
  clear hm1
  have HM2 := Lib.hid hm2
  obtain ⟨ma2, mc2, rfl, hma2, hmb2, _⟩ := hm2.ints
  clear hm2
  unfold maxLen at hn2 ho2 hmb1 hmb2
  have hne : (ok != ok) = false := by cases ok <;> rfl
  obtain ⟨wa, hwa⟩ : ∃ wa, wa = w.alloc (.cells #[.slice an ls.length cn, .slice ao l.length co] 58) := ⟨_, rfl⟩
  have hsz : wa.heap.size = w.heap.size + 1 := by rw [hwa]; simp
  have P0 : Hid (Blk2 wa w.heap.size 58 (.slice an ls.length cn) (.slice ao l.length co)) := by rw [hwa]; exact Blk2.new
  have HA : Hid (Below w.heap.size w wa) := by rw [hwa]; exact (Below.refl w.heap.size w).alloc (Nat.le_refl _) _
  have hlt0 : w.heap.size < wa.heap.size := by omega
  obtain ⟨c0, c1⟩ := P0.out.cells
  have HWA := Lib.hid hwa
  have HS := Lib.hid (szGraph_any ls l 1048576 _ wa (HST.out.below HA.out) (by omega))
  have HGV : Hid (∀ W, Below wa.heap.size wa W → GraphV W (.agg #[.slice an ls.length cn, .slice ao l.length co]) ls l) := fun W h => HST.out.below (bt HA.out h)
  have HMV1 : Hid (∀ W, Below wa.heap.size wa W → RowV W (.slice ma1 m1.length mc1) (I m1)) := fun W h => HM1.out.below (bt HA.out h)
  have HMV2 : Hid (∀ W, Below wa.heap.size wa W → RowV W (.slice ma2 m2.length mc2) (I m2)) := fun W h => HM2.out.below (bt HA.out h)
  clear hwa
  by_cases hbig1 : 1048576 < m1.length
  · have hb1 : decide ((m1.length : Int) > 1048576) = true := by simp; omega
    clear HSP HIM HS
    go_enter Try.func10, Try.ntmps10
    go_wp2_with fail
    rw [← HWA.out]
    go_ret
    exact ⟨rfl, HA.out⟩
  have hbl1 : decide ((m1.length : Int) > 1048576) = false := by simp; omega
  have hml1 : m1.length ≤ 1048576 := by omega
  clear hbig1
  by_cases hbig2 : 1048576 < m2.length
  · have hb1 : decide ((m2.length : Int) > 1048576) = true := by simp; omega
    clear HSP HIM HS
    go_enter Try.func10, Try.ntmps10
    go_wp2_with fail
    rw [← HWA.out]
    go_ret
    exact ⟨rfl, HA.out⟩
  have hbl2 : decide ((m2.length : Int) > 1048576) = false := by simp; omega
  have hml2 : m2.length ≤ 1048576 := by omega
  clear hbig2
  go_enter Try.func10, Try.ntmps10
  go_wp2_with fail
  rw [← HWA.out]
  refine HS.out.mono ?_
  rintro e w1 ⟨r, rfl, hr, hb1⟩
  have K1 := Lib.hid hb1
  clear hb1 HS c0 c1 hbl1 hbl2
  obtain ⟨c0, c1⟩ := (P0.out.below K1.out hlt0).cells
  by_cases h0 : r < 0
  · clear hr
    go_wp2_with fail
    go_ret
    exact ⟨rfl, bt HA.out K1.out⟩
  have hl : ls.length + total ls + l.length ≤ 1100000 := by have := hr (by omega); omega
  have hl2 : ls.length + total ls + l.length ≤ 2000000 := by omega
  clear hr
  have HTO := Lib.hid (fun W (hb : GraphV W _ ls l) => toGraph_any ls l (.agg #[.slice an ls.length cn, .slice ao l.length co]) W hb hl2)
  have HTI1 := Lib.hid (fun W (hb : RowV W _ (I m1)) => toIntS_any m1 (.slice ma1 m1.length mc1) W hb (by omega))
  have HEI1 := Lib.hid (fun W x y (h1 : RowV W x (I m1)) (h2 : RowV W y (I m1)) => eqIntS_b h1 h2 (by omega) (decide_eq_true (rfl : m1 = m1)))
  have HTI2 := Lib.hid (fun W (hb : RowV W _ (I m2)) => toIntS_any m2 (.slice ma2 m2.length mc2) W hb (by omega))
  have HEI2 := Lib.hid (fun W x y (h1 : RowV W x (I m2)) (h2 : RowV W y (I m2)) => eqIntS_b h1 h2 (by omega) (decide_eq_true (rfl : m2 = m2)))
  have HEQ := Lib.hid (fun W x y (h1 : RowV W x (I R)) (h2 : RowV W y (I R)) => eqIntS_b h1 h2 (by omega) (decide_eq_true (rfl : R = R)))
  have hk2 : decide (((1 + R.length : Nat) : Int) < 0) = false := decide_eq_false (by omega)
  have hk3 : (((1 + R.length : Nat) : Int) != ((1 + R.length : Nat) : Int)) = false := by simp
  have HMI := Lib.hid (fun B u (W : World) (h : W.ownsRow B 3 1 u R.length (I R)) => markIntS_l (l := R) (k := 1) (i := (1 : Int)) (r := ((1 + R.length : Nat) : Int)) rfl (by omega) h (by omega) (by omega))
  have HHI := Lib.hid (fun u W (h : RowV W u (I (marks ((1 : Nat) : Int) R.length))) => heldIntS_l (k := 1) (n := R.length) (i := (1 : Int)) (r := ((1 + R.length : Nat) : Int)) rfl (by omega) h (by omega) (by omega))
  have HMG := Lib.hid (fun B u (W0 W : World) (h : GraphO B W0 u ls l) (hb : Below W0.heap.size W0 W) (hB : B ≤ W0.heap.size) => markGraph_any ls l 1 B u W0 W h hb hB (by omega) (by omega))
  have htg : totalG ls l ≤ 1100000 := by unfold totalG; omega
  have HMM1 := Lib.hid (fun B u (W : World) (h : W.ownsRow B 3 1 u m1.length (I m1)) => markIntS_L (l := m1) (k := 1 + totalG ls l) (i := ((1 + totalG ls l : Nat) : Int)) (r := ((1 + totalG ls l + m1.length : Nat) : Int)) rfl (by omega) h (by omega) (by omega))
  have HMM2 := Lib.hid (fun B u (W : World) (h : W.ownsRow B 3 1 u m2.length (I m2)) => markIntS_L (l := m2) (k := 1 + totalG ls l + m1.length) (i := ((1 + totalG ls l + m1.length : Nat) : Int)) (r := ((1 + totalG ls l + m1.length + m2.length : Nat) : Int)) rfl (by omega) h (by omega) (by omega))
  have hk1 : decide (((1 + totalG ls l + m1.length + m2.length : Nat) : Int) < 0) = false := decide_eq_false (by omega)
  have hone : ((1 : Nat) : Int) = 1 := rfl
  rw [hone] at HMG HMI HHI
  clear hone htg
  generalize 1 + totalG ls l + m1.length + m2.length = kk2 at *
  generalize 1 + totalG ls l + m1.length = kk1 at *
  generalize 1 + totalG ls l = kk0 at *
  generalize 1 + R.length = k2 at *
  -- the reference's answer
  go_wp2_with fail
  refine (HTO.out w1 (HGV.out w1 K1.out)).mono ?_
  rintro e w2 ⟨v2, rfl, ho2', hb2⟩
  have K2 := Lib.hid (bt K1.out hb2)
  have HG2 := Lib.hid ho2'.view
  clear hb2 ho2' c0 c1
  go_wp2_with fail
  refine (HTI1.out w2 (HMV1.out w2 K2.out)).mono ?_
  rintro e p1 ⟨y1, rfl, hoy1, hbp1⟩
  have KP1 := Lib.hid (bt K2.out hbp1)
  have HGP1 := Lib.hid (HG2.out.below hbp1)
  have HYP1_1 := Lib.hid (RowV.of_own hoy1)
  clear hoy1 hbp1
  go_wp2_with fail
  refine (HTI2.out p1 (HMV2.out p1 KP1.out)).mono ?_
  rintro e p2 ⟨y2, rfl, hoy2, hbp2⟩
  have KP2 := Lib.hid (bt KP1.out hbp2)
  have HGP2 := Lib.hid (HGP1.out.below hbp2)
  have HYP1_2 := Lib.hid (HYP1_1.out.below hbp2)
  have HYP2_2 := Lib.hid (RowV.of_own hoy2)
  clear hoy2 hbp2
  go_wp2_with fail
  refine (HSP.out p2 v2 y1 y2 HGP2.out HYP1_2.out HYP2_2.out).mono ?_
  rintro e w3 ⟨v3, rfl, hw3, hb3⟩
  have K3 := Lib.hid (bt KP2.out hb3)
  have HW := Lib.hid hw3
  have sa3 := K3.out.size
  clear hb3 hw3
  obtain ⟨c0, c1⟩ := (P0.out.below K3.out hlt0).cells
  -- copies of the arguments
  go_wp2_with fail
  refine (HTO.out w3 (HGV.out w3 K3.out)).mono ?_
  rintro e w4 ⟨v4, rfl, ho4, hb4⟩
  have s34 := hb4.size
  have HO4 := Lib.hid ho4
  obtain ⟨b1, d1, b2, d2, rfl⟩ := ho4.slices
  obtain ⟨wb, hwb⟩ : ∃ wb, wb = w4.alloc (.cells #[.slice b1 ls.length d1, .slice b2 l.length d2] 26) := ⟨_, rfl⟩
  have X4 : Hid (Blk2 wb w4.heap.size 26 (.slice b1 ls.length d1) (.slice b2 l.length d2)) := by rw [hwb]; exact Blk2.new
  have hAB : Below w4.heap.size w4 wb := by rw [hwb]; exact (Below.refl w4.heap.size w4).alloc (Nat.le_refl _) _
  have hsb : wb.heap.size = w4.heap.size + 1 := by rw [hwb]; simp
  have E4 := Lib.hid hAB
  have D4 := Lib.hid (Below.refl wb.heap.size wb)
  have A4 := Lib.hid (bt hb4 hAB)
  have K4 := Lib.hid (bt (bt K3.out hb4) hAB)
  have HWB := Lib.hid hwb
  clear hb4 ho4 c0 c1 hwb hAB
  go_wp2_with fail
  rw [← HWB.out]

  refine (HTI1.out wb (HMV1.out wb K4.out)).mono ?_
  rintro e q1 ⟨x1, rfl, hox1, hbq1⟩
  have sq1 := hbq1.size
  have EQ1 := Lib.hid (bt E4.out hbq1)
  have DQ1 := Lib.hid (bt D4.out hbq1)
  have AQ1 := Lib.hid (bt A4.out hbq1)
  have KQ1 := Lib.hid (bt K4.out hbq1)
  have HX1_1 := Lib.hid hox1
  have hxl1 : ∀ b, x1.ownBlock = some b → b < q1.heap.size := fun b h => (hox1.lt b h).2
  clear hox1 hbq1
  go_wp2_with fail
  refine (HTI2.out q1 (HMV2.out q1 KQ1.out)).mono ?_
  rintro e q2 ⟨x2, rfl, hox2, hbq2⟩
  have sq2 := hbq2.size
  have EQ2 := Lib.hid (bt EQ1.out hbq2)
  have DQ2 := Lib.hid (bt DQ1.out hbq2)
  have AQ2 := Lib.hid (bt AQ1.out hbq2)
  have KQ2 := Lib.hid (bt KQ1.out hbq2)
  have HX1_2 := Lib.hid (own_below HX1_1.out hbq2)
  have HX2_2 := Lib.hid hox2
  have hxl2 : ∀ b, x2.ownBlock = some b → b < q2.heap.size := fun b h => (hox2.lt b h).2
  clear hox2 hbq2
  obtain ⟨x00, x01⟩ := (X4.out.below DQ2.out (by omega)).cells
  -- the program's answer
  go_wp2_with fail
  refine (HIM.out q2 _ x1 x2 (HO4.out.view.below EQ2.out) (RowV.of_own HX1_2.out) (RowV.of_own HX2_2.out)).mono ?_
  rintro e w6 ⟨v6, rfl, hg6, hb6⟩
  have s6 := hb6.size
  have E6 := Lib.hid (bt EQ2.out hb6)
  have D6 := Lib.hid (bt DQ2.out hb6)
  have A6 := Lib.hid (bt AQ2.out hb6)
  have K6 := Lib.hid (bt KQ2.out hb6)
  have HX1_6 := Lib.hid (own_below HX1_2.out hb6)
  have HX2_6 := Lib.hid (own_below HX2_2.out hb6)
  have HG6 := Lib.hid hg6
  obtain ⟨g1, e1, rfl⟩ := own_slice hg6
  obtain ⟨g3, e3, hv3⟩ := own_slice HW.out
  subst hv3
  clear hb6 x00 x01 hg6
  go_wp2_with fail
  refine (HEQ.out w6 _ _ (RowV.of_own HG6.out) (RowV.of_own (own_below HW.out A6.out))).mono ?_
  rintro e w7 ⟨rfl, hb7⟩
  have s7 := hb7.size
  have E7 := Lib.hid (bt E6.out hb7)
  have D7 := Lib.hid (bt D6.out hb7)
  have A7 := Lib.hid (bt A6.out hb7)
  have K7 := Lib.hid (bt K6.out hb7)
  have HG7 := Lib.hid (own_below HG6.out hb7)
  have HX1_7 := Lib.hid (own_below HX1_6.out hb7)
  have HX2_7 := Lib.hid (own_below HX2_6.out hb7)
  clear hb7 HG6
  have hlt7 : w.heap.size < w7.heap.size := by omega
  have hlt8 : w4.heap.size < w7.heap.size := by omega
  have PD : Hid (Blk2 w7.drew w.heap.size 58 (.slice an ls.length cn) (.slice ao l.length co)) := P0.out.below (Below.drew K7.out) hlt0
  have XD : Hid (Blk2 w7.drew w4.heap.size 26 (.slice b1 ls.length d1) (.slice b2 l.length d2)) := X4.out.below (Below.drew D7.out) (by omega)
  have ks := And.intro PD.out.cells XD.out.cells
  have HX7 : Hid (GraphV w7.drew (.agg #[.slice b1 ls.length d1, .slice b2 l.length d2]) ls l) := HO4.out.view.below (Below.drew E7.out)
  have HST7 : Hid (GraphV w7.drew (.agg #[.slice an ls.length cn, .slice ao l.length co]) ls l) := HGV.out w7.drew (Below.drew K7.out)
  have HE := Lib.hid (fun W v5 (hb : GraphV W _ ls l) (hb5 : GraphV W v5 ls l) => eqGraph_any ls ls l l (.agg #[.slice b1 ls.length d1, .slice b2 l.length d2]) v5 W hb hb5 hl2)
  rw [sameG_self] at HE
  go_wp2_with fail
  -- the copy is as it was
  go_region_held3 (fun w' => (w'.cell? ⟨w.heap.size, 0, none⟩ = some (.slice an ls.length cn) ∧ w'.cell? ⟨w.heap.size, 1, none⟩ = some (.slice ao l.length co)) ∧ (w'.cell? ⟨w4.heap.size, 0, none⟩ = some (.slice b1 ls.length d1) ∧ w'.cell? ⟨w4.heap.size, 1, none⟩ = some (.slice b2 l.length d2))) (first | exact ks)
    (first
      | (go_at_call 60; refine (HTO.out _ (by exact HST7.out)).mono ?_; rintro e w7b ⟨v7, rfl, ho7, hb7⟩
         have ks := And.intro (PD.out.below hb7 hlt7).cells (XD.out.below hb7 hlt8).cells
         have HO7 := Lib.hid ho7.view
         have HXB := Lib.hid (GraphV.below (by exact HX7.out) hb7)
         have C7 := Lib.hid hb7
         clear ho7 hb7)
      | (go_at_call 61; refine (HE.out _ _ (by exact HXB.out) (by exact HO7.out)).mono ?_; rintro e w8 ⟨rfl, hb8⟩
         have C8 := Lib.hid (bt C7.out hb8)
         have ks := And.intro (PD.out.below C8.out hlt7).cells (XD.out.below C8.out hlt8).cells
         clear hb8))
  all_goals
    have s8 : w7.heap.size ≤ w8.heap.size := C8.out.size
    have E8 := Lib.hid (bt (Below.drew E7.out) C8.out)
    have D8 := Lib.hid (bt (Below.drew D7.out) C8.out)
    have A8 := Lib.hid (bt (Below.drew A7.out) C8.out)
    have K8 := Lib.hid (bt (Below.drew K7.out) C8.out)
    have HX1_8 := Lib.hid (own_below (w := w7.drew) (show w7.drew.ownsRow wb.heap.size 3 1 _ _ _ from HX1_7.out) C8.out)
    have HX2_8 := Lib.hid (own_below (w := w7.drew) (show w7.drew.ownsRow q1.heap.size 3 1 _ _ _ from HX2_7.out) C8.out)
    have HG8 := Lib.hid (own_below (w := w7.drew) (show w7.drew.ownsRow q2.heap.size 3 1 _ _ _ from HG7.out) C8.out)
    clear ks PD XD HX7 HST7 HO7 HXB C7 C8 HG7
    go_wp2_with fail
    refine (HTI1.out w8 (HMV1.out w8 K8.out)).mono ?_
    rintro e r1 ⟨z1, rfl, hoz1, hbr1⟩
    have sr1 := hbr1.size
    have ER1 := Lib.hid (bt E8.out hbr1)
    have DR1 := Lib.hid (bt D8.out hbr1)
    have AR1 := Lib.hid (bt A8.out hbr1)
    have KR1 := Lib.hid (bt K8.out hbr1)
    have HZ1 := Lib.hid (RowV.of_own hoz1)
    have HX1_R1 := Lib.hid (own_below HX1_8.out hbr1)
    have HX2_R1 := Lib.hid (own_below HX2_8.out hbr1)
    have HGR1 := Lib.hid (own_below HG8.out hbr1)
    clear hoz1 hbr1
    go_wp2_with fail
    refine (HEI1.out r1 _ _ (RowV.of_own HX1_R1.out) HZ1.out).mono ?_
    rintro e s1 ⟨rfl, hbs1⟩
    have ss1 := hbs1.size
    have ES1 := Lib.hid (bt ER1.out hbs1)
    have DS1 := Lib.hid (bt DR1.out hbs1)
    have AS1 := Lib.hid (bt AR1.out hbs1)
    have KS1 := Lib.hid (bt KR1.out hbs1)
    have HX1_S1 := Lib.hid (own_below HX1_R1.out hbs1)
    have HX2_S1 := Lib.hid (own_below HX2_R1.out hbs1)
    have HGS1 := Lib.hid (own_below HGR1.out hbs1)
    clear hbs1 HZ1
    go_wp2_with fail
    refine (HTI2.out s1 (HMV2.out s1 KS1.out)).mono ?_
    rintro e r2 ⟨z2, rfl, hoz2, hbr2⟩
    have sr2 := hbr2.size
    have ER2 := Lib.hid (bt ES1.out hbr2)
    have DR2 := Lib.hid (bt DS1.out hbr2)
    have AR2 := Lib.hid (bt AS1.out hbr2)
    have KR2 := Lib.hid (bt KS1.out hbr2)
    have HZ2 := Lib.hid (RowV.of_own hoz2)
    have HX1_R2 := Lib.hid (own_below HX1_S1.out hbr2)
    have HX2_R2 := Lib.hid (own_below HX2_S1.out hbr2)
    have HGR2 := Lib.hid (own_below HGS1.out hbr2)
    clear hoz2 hbr2
    go_wp2_with fail
    refine (HEI2.out r2 _ _ (RowV.of_own HX2_R2.out) HZ2.out).mono ?_
    rintro e s2 ⟨rfl, hbs2⟩
    have ss2 := hbs2.size
    have ES2 := Lib.hid (bt ER2.out hbs2)
    have DS2 := Lib.hid (bt DR2.out hbs2)
    have AS2 := Lib.hid (bt AR2.out hbs2)
    have KS2 := Lib.hid (bt KR2.out hbs2)
    have HX1_S2 := Lib.hid (own_below HX1_R2.out hbs2)
    have HX2_S2 := Lib.hid (own_below HX2_R2.out hbs2)
    have HGS2 := Lib.hid (own_below HGR2.out hbs2)
    clear hbs2 HZ2
    obtain ⟨x0', x1'⟩ := (X4.out.below DS2.out (by omega)).cells
    -- marks in the copies
    go_wp2_with fail
    refine (HMG.out w3.heap.size _ w4 s2 HO4.out ES2.out s34).mono ?_
    rintro e w9 ⟨rfl, _, hg9⟩
    have s9 := hg9.below.size
    have A9 := Lib.hid (AS2.out.trans hg9.below)
    have K9 := Lib.hid (KS2.out.trans (hg9.below.mono sa3))
    have HG9 := Lib.hid (own_only HGS2.out hg9 (by omega))
    have HX1_9 := Lib.hid (own_only HX1_S2.out hg9 (by omega))
    have HX2_9 := Lib.hid (own_only HX2_S2.out hg9 (by omega))
    clear hg9 x0' x1'
    go_wp2_with fail
    refine (HMM1.out wb.heap.size _ w9 HX1_9.out).mono ?_
    rintro e t1 ⟨rfl, _, hgt1⟩
    have hbt1 := below_own HX1_9.out hgt1 (by omega)
    have st1 := hgt1.size
    have AT1 := Lib.hid (A9.out.trans (hbt1.mono (by omega)))
    have KT1 := Lib.hid (K9.out.trans (hbt1.mono (by omega)))
    have HGT1 := Lib.hid (own_apartI HG9.out hgt1 (fun b h1 h2 => by have := hxl1 b h1; have := (HG9.out.lt b h2).1; omega))
    have HX2_T1 := Lib.hid (own_apartI HX2_9.out hgt1 (fun b h1 h2 => by have := hxl1 b h1; have := (HX2_9.out.lt b h2).1; omega))
    clear hgt1 hbt1
    go_wp2_with fail
    refine (HMM2.out q1.heap.size _ t1 HX2_T1.out).mono ?_
    rintro e t2 ⟨rfl, _, hgt2⟩
    have hbt2 := below_own HX2_T1.out hgt2 (by omega)
    have st2 := hgt2.size
    have AT2 := Lib.hid (AT1.out.trans (hbt2.mono (by omega)))
    have KT2 := Lib.hid (KT1.out.trans (hbt2.mono (by omega)))
    have HGT2 := Lib.hid (own_apartI HGT1.out hgt2 (fun b h1 h2 => by have := hxl2 b h1; have := (HGT1.out.lt b h2).1; omega))
    clear hgt2 hbt2
    go_wp2_with fail
    refine (HEQ.out t2 _ _ (RowV.of_own HGT2.out) (RowV.of_own (own_below HW.out AT2.out))).mono ?_
    rintro e w10 ⟨rfl, hb10⟩
    have s10 := hb10.size
    have A10 := Lib.hid (bt AT2.out hb10)
    have K10 := Lib.hid (bt KT2.out hb10)
    have HG10 := Lib.hid (own_below HGT2.out hb10)
    clear hb10
    -- marks in the answer
    go_wp2_with fail
    refine (HMI.out q2.heap.size _ w10 HG10.out).mono ?_
    rintro e w11 ⟨rfl, ho11, hg11⟩
    have hbb := below_own HG10.out hg11 (by omega)
    have s11 := hg11.size
    have A11 := Lib.hid (A10.out.trans (hbb.mono (by omega)))
    have K11 := Lib.hid (K10.out.trans (hbb.mono (by omega)))
    have HM11 := Lib.hid ho11
    clear ho11 hg11 hbb HG10
    go_wp2_with fail
    refine (HHI.out _ w11 (RowV.of_own HM11.out)).mono ?_
    rintro e w12 ⟨rfl, hb12⟩
    have A12 := Lib.hid (bt A11.out hb12)
    have K12 := Lib.hid (bt K11.out hb12)
    have HM12 := Lib.hid (own_below HM11.out hb12)
    clear hb12 HM11
    obtain ⟨c0, c1⟩ := (P0.out.below K12.out hlt0).cells
    -- asked again
    go_wp2_with fail
    refine (HTO.out w12 (HGV.out w12 K12.out)).mono ?_
    rintro e w13 ⟨v13, rfl, ho13, hb13⟩
    have A13 := Lib.hid (bt A12.out hb13)
    have K13 := Lib.hid (bt K12.out hb13)
    have HM13 := Lib.hid (own_below HM12.out hb13)
    have HG13 := Lib.hid ho13.view
    clear hb13 ho13 c0 c1 HM12
    go_wp2_with fail
    refine (HTI1.out w13 (HMV1.out w13 K13.out)).mono ?_
    rintro e z1 ⟨yz1, rfl, hoz1, hbz1⟩
    have AZ1 := Lib.hid (bt A13.out hbz1)
    have KZ1 := Lib.hid (bt K13.out hbz1)
    have HMZ1 := Lib.hid (own_below HM13.out hbz1)
    have HGZ1 := Lib.hid (HG13.out.below hbz1)
    have HYZ1_1 := Lib.hid (RowV.of_own hoz1)
    clear hoz1 hbz1
    go_wp2_with fail
    refine (HTI2.out z1 (HMV2.out z1 KZ1.out)).mono ?_
    rintro e z2 ⟨yz2, rfl, hoz2, hbz2⟩
    have AZ2 := Lib.hid (bt AZ1.out hbz2)
    have KZ2 := Lib.hid (bt KZ1.out hbz2)
    have HMZ2 := Lib.hid (own_below HMZ1.out hbz2)
    have HGZ2 := Lib.hid (HGZ1.out.below hbz2)
    have HYZ1_2 := Lib.hid (HYZ1_1.out.below hbz2)
    have HYZ2_2 := Lib.hid (RowV.of_own hoz2)
    clear hoz2 hbz2
    go_wp2_with fail
    refine (HIM.out z2 v13 yz1 yz2 HGZ2.out HYZ1_2.out HYZ2_2.out).mono ?_
    rintro e w14 ⟨v14, rfl, ho14, hb14⟩
    have A14 := Lib.hid (bt AZ2.out hb14)
    have K14 := Lib.hid (bt KZ2.out hb14)
    have HM14 := Lib.hid (own_below HMZ2.out hb14)
    have HV14 := Lib.hid (RowV.of_own ho14)
    obtain ⟨g14, e14, rfl⟩ := own_slice ho14
    clear hb14 ho14
    go_wp2_with fail
    refine (HEQ.out w14 _ _ HV14.out (RowV.of_own (own_below HW.out A14.out))).mono ?_
    rintro e w15 ⟨rfl, hb15⟩
    have K15 := Lib.hid (bt K14.out hb15)
    have HM15 := Lib.hid (own_below HM14.out hb15)
    clear hb15 HM14 HV14
    go_wp2_with fail
    refine (HHI.out _ w15 (RowV.of_own HM15.out)).mono ?_
    rintro e w16 ⟨rfl, hb16⟩
    have K16 := Lib.hid (bt K15.out hb16)
    clear hb16
    go_wp2_with fail
    go_ret
    exact ⟨rfl, bt HA.out K16.out⟩

end Go.Proofs.Ytpjmdljjmknpkaa

/- Walks: new graphs. -/
namespace Go.Proofs.Ytpjmdljjmknpkaa
open Go.RowKit Pth

/-- A graph of the call's own, and whether it is told. -/
def GraphOk (ls : List (List Int)) (l : List Int) (b : Bool) (w : World) (e : Ending) (w' : World) : Prop := ∃ v', e = .returned (.tuple #[v', .bool b]) ∧ GraphO w.heap.size w' v' ls l ∧ Below w.heap.size w w'
theorem GraphO.none (B : Nat) (w : World) : GraphO B w (.agg #[.slice none 0 0, .slice none 0 0]) [] [] :=
  ⟨_, _, [], rfl, rfl, ⟨rfl, .inl ⟨rfl, rfl⟩⟩, fun p hp => by
    simp only [List.zip_nil_left, List.nil_append, List.mem_singleton] at hp
    subst hp
    exact ⟨rfl, .inl ⟨rfl, rfl⟩⟩, by simp⟩

/-- What a new list's block holds. -/
theorem make_alloc {t e : TypeId} {z : Value} {bytes : Nat} (E : Elem t e z bytes) (hz : z.cells = #[z]) (n : Nat) (hn : n ≤ 2000000) :
    ∃ cs : Array Value, cs.toList = List.replicate n z ∧ ∀ w : World, (Instr.makeSlice t (.int .i64 (n : Int)) (.int .i64 (n : Int))).run Try.prog w = .ok (.slice (some ⟨w.heap.size, 0, none⟩) n n) (w.alloc (.cells cs e)) := by
  obtain ⟨i0, hi, hz0, hz1, hz2⟩ := info_parts E.info
  refine ⟨madeCells z.cells (n * i0.size), by rw [hz, hz1, Nat.mul_one, toList_madeCells_one], fun w => ?_⟩
  have hb : ((i0.bytes : Int)) * (n : Int) ≤ 281474976710656 := by
    have h : i0.bytes * n ≤ 281474976710656 := by rw [hz2]; exact Nat.le_trans (Nat.mul_le_mul E.small hn) (by decide)
    have h' : ((i0.bytes * n : Nat) : Int) ≤ 281474976710656 := by omega
    rwa [Int.natCast_mul] at h'
  have hr := run_make (P := Try.prog) w t e i0 z E.under hi hz0 .i64 .i64 n n (by omega) (Int.le_refl _) hb (by omega)
  simp only [Int.toNat_natCast] at hr
  exact hr
theorem own_of_heap {w : World} {B e n g : Nat} {cs : Array Value} {xs : List Value} (hh : w.heap[g]? = some (.cells cs e (0, 0))) (hg : B ≤ g) (hx : cs.toList = xs) (hl : xs.length = n) (hn : n ≤ maxLen) : w.ownsRow B e 1 (.slice (some ⟨g, 0, none⟩) n n) n xs := by
  subst hx
  have hs : cs.size = n := by rw [Array.length_toList] at hl; exact hl
  refine ⟨by rw [hl, Nat.mul_one], .inr ⟨g, n, cs, rfl, hg, hh, Nat.le_refl _, hn, by omega, ?_⟩⟩
  rw [Nat.mul_one, ← hl, List.take_length]

/-- Four blocks laid one behind the other. -/
theorem four_new (w : World) (A X Y Z : Array Value) (a x y z : TypeId) :
    let W := ((((w.alloc (.cells A a)).alloc (.cells X x)).alloc (.cells Y y)).alloc (.cells Z z)).drew
    W.heap[w.heap.size]? = some (.cells A a (0, 0)) ∧ W.heap[w.heap.size + 1]? = some (.cells X x (0, 0)) ∧ W.heap[w.heap.size + 1 + 1]? = some (.cells Y y (0, 0)) ∧ W.heap[w.heap.size + 1 + 1 + 1]? = some (.cells Z z (0, 0)) ∧ Below w.heap.size w W := by
  have e1 : (w.alloc (.cells A a)).heap.size = w.heap.size + 1 := by simp
  have e2 : ((w.alloc (.cells A a)).alloc (.cells X x)).heap.size = w.heap.size + 1 + 1 := by simp
  have e3 : (((w.alloc (.cells A a)).alloc (.cells X x)).alloc (.cells Y y)).heap.size = w.heap.size + 1 + 1 + 1 := by simp
  have h0 := heap_alloc_new w (.cells A a)
  have h1 := heap_alloc_new (w.alloc (.cells A a)) (.cells X x)
  have h2 := heap_alloc_new ((w.alloc (.cells A a)).alloc (.cells X x)) (.cells Y y)
  have h3 := heap_alloc_new (((w.alloc (.cells A a)).alloc (.cells X x)).alloc (.cells Y y)) (.cells Z z)
  rw [e1] at h1
  rw [e2] at h2
  rw [e3] at h3
  have o1 := Below.heap_alloc (w.alloc (.cells A a)) (.cells X x)
  have o2 := Below.heap_alloc ((w.alloc (.cells A a)).alloc (.cells X x)) (.cells Y y)
  have o3 := Below.heap_alloc (((w.alloc (.cells A a)).alloc (.cells X x)).alloc (.cells Y y)) (.cells Z z)
  refine ⟨?_, ?_, ?_, h3, ?_⟩
  · exact (o3 _ (by omega)).trans ((o2 _ (by omega)).trans ((o1 _ (by omega)).trans h0))
  · exact (o3 _ (by omega)).trans ((o2 _ (by omega)).trans h1)
  · exact (o3 _ (by omega)).trans h2
  · exact Below.drew (((((Below.refl w.heap.size w).alloc (Nat.le_refl _) _).alloc (by omega) _).alloc (by omega) _).alloc (by omega) _)

theorem own_setNe {w : World} {B e n : Nat} {v : Value} {xs : List Value} (h : w.ownsRow B e 1 v n xs) {p : Addr} (hp : v.ownBlock ≠ some p.block) (u : Value) : (w.setCell p u).ownsRow B e 1 v n xs := by
  refine ⟨h.1, ?_⟩
  rcases h.2 with h0 | ⟨g, cap, cur, hv, hg, hh, r⟩
  · exact .inl h0
  · exact .inr ⟨g, cap, cur, hv, hg, (Below.heap_setCell w p u g (fun e => hp (by rw [hv, ← e]; rfl))).trans hh, r⟩
theorem Blk2.setNe {w : World} {b t : Nat} {x y : Value} (h : Blk2 w b t x y) {p : Addr} (hp : b ≠ p.block) (u : Value) : Blk2 (w.setCell p u) b t x y := (Below.heap_setCell w p u b hp).trans h
/-- The blocks of a new graph. -/
structure NewAt (w : World) (csN csI : Array Value) (n b g1 g2 : Nat) (wx : World) : Prop where
  hb : w.heap.size < b
  hg1 : w.heap.size < g1
  hg2 : w.heap.size < g2
  res : Blk2 wx w.heap.size 26 (.slice none 0 0) (.slice none 0 0)
  blk : Blk2 wx b 26 (.slice (some ⟨g1, 0, none⟩) n n) (.slice (some ⟨g2, 0, none⟩) n n)
  needs : wx.heap[g1]? = some (.cells csN 24 (0, 0))
  order : wx.heap[g2]? = some (.cells csI 3 (0, 0))
  below : Below w.heap.size w wx
theorem blk_ne {w : World} {b t g n B e : Nat} {x y : Value} {v : Value} {xs : List Value} (h : Blk2 w b t x y) (ho : w.ownsRow B e 1 v n xs) (he : e ≠ t) : ∀ k, v.ownBlock = some k → b ≠ k := by
  intro k hk hbk
  subst hbk
  rcases ho.2 with ⟨hv, _⟩ | ⟨g, cap, cur, hv, _, hg, _⟩
  · rw [hv] at hk; simp [Value.ownBlock] at hk
  · rw [hv] at hk
    simp only [Value.ownBlock, Option.some.injEq] at hk
    subst hk
    unfold Blk2 at h
    rw [h] at hg
    simp at hg
    exact he hg.2.symm
theorem Blk2.beside {w w' : World} {b t : Nat} {x y : Value} {r : Option Nat} (h : Blk2 w b t x y) (hg : w.grownBy w' r) (hr : r ≠ some b) : Blk2 w' b t x y := (hg.block b (lt_of_block h) (fun e => hr e.symm)).trans h
theorem nil_lists (B : Nat) (w : World) (n : Nat) : Lists B w ((List.replicate n (Value.slice none 0 0)).zip (List.replicate n [])) := by
  rw [List.zip_replicate']
  refine ⟨fun p hp => ?_, ?_⟩
  · rw [List.eq_of_mem_replicate hp]; exact ⟨rfl, .inl ⟨rfl, rfl⟩⟩
  · rw [List.pairwise_replicate]
    exact .inr (fun b h => by simp [Value.ownBlock] at h)
theorem Lists.more {B : Nat} {w : World} {L : List (Value × List Int)} {v : Value} {l : List Int} (h : Lists B w L) (hown : w.ownsRow B 3 1 v l.length (I l)) (ha : ∀ p ∈ L, Apart p (v, l)) : Lists B w (L ++ [(v, l)]) := by
  refine ⟨fun p hp => ?_, ?_⟩
  · rw [List.mem_append, List.mem_singleton] at hp
    rcases hp with hp | rfl
    · exact h.1 p hp
    · exact hown
  · rw [List.pairwise_append]
    refine ⟨h.2, by simp, fun p hp q hq => ?_⟩
    rw [List.mem_singleton] at hq
    subst hq
    exact ha p hp

set_option maxRecDepth 20000 in
set_option maxHeartbeats 2000000 in
theorem implNew_yes (n : Nat) (w : World) (h1 : 1 ≤ n) (h2 : n ≤ 10) :
    Calls Try.prog 27 #[.int .i64 (n : Int)] w (GraphOk (List.replicate n []) (upto n) true w) := by
  obtain ⟨csN, hcN, mN⟩ := make_alloc elemN rfl n (by omega)
  obtain ⟨csI, hcI, mI⟩ := make_alloc elemI rfl n (by omega)
  have HCN := Lib.hid hcN
  have HCI := Lib.hid hcI
  clear hcN hcI
  go_enter Try.func27, Try.ntmps27
  go_upto_region 3 with (fail)
  go_cut [4] from 13 to 17 (fun p wx => ∃ b g1 g2 : Nat, p = .pointer (some ⟨b, 0, none⟩) ∧ Hid (NewAt w csN csI n b g1 g2 wx))
  case first =>
    go_region
    all_goals
      go_wp2_with fail
      go_meet
      case rel =>
        first
          | (obtain ⟨k0, k1, k2, k3, kb⟩ := four_new w #[.slice none 0 0, .slice none 0 0] csN csI #[.slice (some ⟨w.heap.size + 1, 0, none⟩) n n, .slice (some ⟨w.heap.size + 1 + 1, 0, none⟩) n n] 26 24 3 26
             exact ⟨_, _, _, rfl, by omega, by omega, by omega, k0, k3, k1, k2, kb⟩)
          | (obtain ⟨k0, k1, k2, k3, kb⟩ := four_new w #[.slice none 0 0, .slice none 0 0] csN #[.slice (some ⟨w.heap.size + 1, 0, none⟩) n n, .slice (some ⟨w.heap.size + 1 + 1 + 1, 0, none⟩) n n] csI 26 24 26 3
             exact ⟨_, _, _, rfl, by omega, by omega, by omega, k0, k2, k1, k3, kb⟩)
          | (obtain ⟨k0, k1, k2, k3, kb⟩ := four_new w #[.slice none 0 0, .slice none 0 0] csI csN #[.slice (some ⟨w.heap.size + 1 + 1, 0, none⟩) n n, .slice (some ⟨w.heap.size + 1, 0, none⟩) n n] 26 3 24 26
             exact ⟨_, _, _, rfl, by omega, by omega, by omega, k0, k3, k2, k1, kb⟩)
          | (obtain ⟨k0, k1, k2, k3, kb⟩ := four_new w #[.slice none 0 0, .slice none 0 0] csI #[.slice (some ⟨w.heap.size + 1 + 1 + 1, 0, none⟩) n n, .slice (some ⟨w.heap.size + 1, 0, none⟩) n n] csN 26 3 26 24
             exact ⟨_, _, _, rfl, by omega, by omega, by omega, k0, k2, k3, k1, kb⟩)
          | (obtain ⟨k0, k1, k2, k3, kb⟩ := four_new w #[.slice none 0 0, .slice none 0 0] #[.slice (some ⟨w.heap.size + 1 + 1, 0, none⟩) n n, .slice (some ⟨w.heap.size + 1 + 1 + 1, 0, none⟩) n n] csN csI 26 26 24 3
             exact ⟨_, _, _, rfl, by omega, by omega, by omega, k0, k1, k2, k3, kb⟩)
          | (obtain ⟨k0, k1, k2, k3, kb⟩ := four_new w #[.slice none 0 0, .slice none 0 0] #[.slice (some ⟨w.heap.size + 1 + 1 + 1, 0, none⟩) n n, .slice (some ⟨w.heap.size + 1 + 1, 0, none⟩) n n] csI csN 26 26 3 24
             exact ⟨_, _, _, rfl, by omega, by omega, by omega, k0, k1, k3, k2, kb⟩)
  case rest =>
    obtain ⟨b, g1, g2, rfl, HN⟩ := hcut
    clear mN mI
    have HO := Lib.hid (own_of_heap (B := w.heap.size + 1) HN.out.order (by have := HN.out.hg2; omega) HCI.out (by simp) (show n ≤ maxLen by unfold maxLen; omega))
    have HR := Lib.hid (own_of_heap (B := w.heap.size + 1) HN.out.needs (by have := HN.out.hg1; omega) HCN.out (by simp) (show n ≤ maxLen by unfold maxLen; omega))
    have HP := Lib.hid HN.out.blk
    have HQ := Lib.hid HN.out.res
    have HB := Lib.hid HN.out.below
    clear HN HCN HCI
    go_wp2_with fail
    go_loopw [19] (fun i wr => ∃ k : Nat, k ≤ n ∧ i = .int .i64 k ∧ Hid (wr.ownsRow (w.heap.size + 1) 3 1 (.slice (some ⟨g2, 0, none⟩) n n) n ((I (upto n)).take k ++ List.replicate ((I (upto n)).length - k) (.int .i64 0))) ∧ Hid (wr.ownsRow (w.heap.size + 1) 24 1 (.slice (some ⟨g1, 0, none⟩) n n) n (List.replicate n (.slice none 0 0))) ∧ Hid (Blk2 wr b 26 (.slice (some ⟨g1, 0, none⟩) n n) (.slice (some ⟨g2, 0, none⟩) n n)) ∧ Hid (Blk2 wr w.heap.size 26 (.slice none 0 0) (.slice none 0 0)) ∧ Hid (Below w.heap.size w wr)) (fun i _ => n - (intOf i).toNat)
    case atStart => exact ⟨0, Nat.zero_le _, rfl, by rw [I_len, upto_len]; simpa [Hid] using HO.out, HR, HP, HQ, HB⟩
    case round =>
      clear HO HR HP HQ HB
      obtain ⟨k, hk, rfl, HO, HR, HP, HQ, HB⟩ := hrel
      have p0 := HP.out.cells.1
      have p1 := HP.out.cells.2
      by_cases hlt : k < n
      · have hIl : k < (I (upto n)).length := by rw [I_len, upto_len]; exact hlt
        have hfz := HO.out.frozenAt k
        have hcz : wr.cell? ⟨g2, k, none⟩ = some (.int .i64 0) := by rw [HO.out.cellAt k (by omega), get_row _ _ _ hIl]
        have hst := HO.out.stored k (.int .i64 (k : Int))
        have e := set_row (I (upto n)) (.int .i64 0) k hIl
        rw [I_get (by rw [upto_len]; exact hlt), upto_get] at e
        rw [e] at hst
        have nb := blk_ne (g := 0) HP.out HO.out (by decide) g2 rfl
        have nq := blk_ne (g := 0) HQ.out HO.out (by decide) g2 rfl
        have HO1 := Lib.hid hst.1
        have HR1 := Lib.hid (own_apartI (u := .slice (some ⟨g2, 0, none⟩) n n) HR.out hst.2 (fun i hi hi' => own_typesI HR.out HO.out (by decide) i hi' hi))
        have HP1 := Lib.hid (HP.out.beside hst.2 (fun e => nb (Option.some.inj e).symm))
        have HQ1 := Lib.hid (HQ.out.beside hst.2 (fun e => nq (Option.some.inj e).symm))
        have HB1 := Lib.hid (HB.out.trans (only_below hst.2 (Nat.le_of_succ_le (HO.out.lt g2 rfl).1) HB.out.size))
        clear hst e nb nq HO HR HP HQ HB hIl
        go_wp2_with fail
        go_roundw
        case rel => exact ⟨k + 1, by omega, by go_num, HO1, HR1, HP1, HQ1, HB1⟩
        case measure => simp [intOf]; omega
      · obtain rfl : k = n := by omega
        have HO1 : Hid (wr.ownsRow (w.heap.size + 1) 3 1 (.slice (some ⟨g2, 0, none⟩) k k) (upto k).length (I (upto k))) := by
          have := HO.out
          rw [List.take_of_length_le (by rw [I_len, upto_len]; omega), I_len, upto_len, Nat.sub_self, List.replicate_zero, List.append_nil] at this
          rw [upto_len]; exact this
        have q0 := HQ.out.cells.1
        have q1 := HQ.out.cells.2
        have f0 := HQ.out.soft 0
        have f1 := HQ.out.soft 1
        have Z := (HQ.out.set0 (.slice (some ⟨g1, 0, none⟩) k k)).set1 (.slice (some ⟨g2, 0, none⟩) k k)
        have HZ := Lib.hid Z
        clear Z HO
        go_wp2_with fail
        refine bodyPost_ret (results_cell2 rfl rfl (load_store2 HZ.out.cells.1 HZ.out.cells.2)) rfl ?_
        have hz : w.heap.size < w.heap.size + 1 := Nat.lt_succ_self _
        have r1 := own_setI (own_setI HR.out (p := ⟨w.heap.size, 0, none⟩) hz (.slice (some ⟨g1, 0, none⟩) k k)) (p := ⟨w.heap.size, 1, none⟩) hz (.slice (some ⟨g2, 0, none⟩) k k)
        have r2 := own_setI (own_setI HO1.out (p := ⟨w.heap.size, 0, none⟩) hz (.slice (some ⟨g1, 0, none⟩) k k)) (p := ⟨w.heap.size, 1, none⟩) hz (.slice (some ⟨g2, 0, none⟩) k k)
        refine ⟨_, rfl, ⟨_, _, List.replicate k (.slice none 0 0), rfl, by simp, by rw [List.length_replicate]; exact own_base r1 (Nat.le_succ _), (nil_lists _ _ k).more (own_base r2 (Nat.le_succ _)) (fun p hp i hi => ?_)⟩, (HB.out.setCell (p := ⟨w.heap.size, 0, none⟩) (Nat.le_refl _) _).setCell (p := ⟨w.heap.size, 1, none⟩) (Nat.le_refl _) _⟩
        rw [List.zip_replicate'] at hp
        rw [List.eq_of_mem_replicate hp] at hi
        simp [Value.ownBlock] at hi

set_option maxRecDepth 20000 in
set_option maxHeartbeats 2000000 in
theorem implNew_no (n : Int) (w : World) (h : ¬ (1 ≤ n ∧ n ≤ 10)) :
    Calls Try.prog 27 #[.int .i64 n] w (GraphOk [] [] false w) := by
  have nol : ∀ (W : World) (e : Ending), (∃ v', e = .returned (.tuple #[v', .bool false]) ∧ v' = .agg #[.slice none 0 0, .slice none 0 0]) → Below w.heap.size w W → GraphOk [] [] false w e W := by
    rintro W e ⟨v', he, rfl⟩ hb
    exact ⟨_, he, GraphO.none _ _, hb⟩
  have HL := Lib.hid nol
  clear nol
  by_cases h3 : n < 1
  · go_enter Try.func27, Try.ntmps27
    go_wp2_with fail
    refine bodyPost_ret (results_cell2 rfl rfl (load_store2 (x := .slice none 0 0) (y := .slice none 0 0) (by simp) (by simp))) rfl ?_
    exact HL.out _ _ ⟨_, rfl, rfl⟩ ((Below.refl w.heap.size w).alloc (Nat.le_refl _) _)
  · have h4 : 10 < n := by omega
    clear h
    go_enter Try.func27, Try.ntmps27
    go_wp2_with fail
    refine bodyPost_ret (results_cell2 rfl rfl (load_store2 (x := .slice none 0 0) (y := .slice none 0 0) (by simp) (by simp))) rfl ?_
    exact HL.out _ _ ⟨_, rfl, rfl⟩ ((Below.refl w.heap.size w).alloc (Nat.le_refl _) _)

set_option maxRecDepth 20000 in
set_option maxHeartbeats 2000000 in
theorem specNew_no (n : Int) (w : World) (h : ¬ (1 ≤ n ∧ n ≤ 10)) :
    Calls Try.prog 28 #[.int .i64 n] w (GraphOk [] [] false w) := by
  have e1 : (decide ((1 : Int) ≤ n) && decide (n ≤ 10)) = false := by
    rw [Bool.eq_false_iff]; intro h'; rw [Bool.and_eq_true, decide_eq_true_iff, decide_eq_true_iff] at h'; exact h h'
  have HI := fun W => l1In_any n 1 10 W
  rw [e1] at HI
  have HC := Lib.hid HI
  clear HI e1 h
  go_enter Try.func28, Try.ntmps28
  go_wp2_with fail
  refine (HC.out _).mono ?_
  rintro e w1 ⟨rfl, rfl⟩
  go_wp2_with fail
  refine bodyPost_ret (results_cell2 rfl rfl (load_store2 (x := .slice none 0 0) (y := .slice none 0 0) (by simp) (by simp))) rfl ?_
  exact ⟨_, rfl, GraphO.none _ _, (Below.refl w.heap.size w).alloc (Nat.le_refl _) _⟩

set_option maxRecDepth 20000 in
set_option maxHeartbeats 2000000 in
theorem specNew_yes (n : Nat) (w : World) (h1 : 1 ≤ n) (h2 : n ≤ 10) :
    Calls Try.prog 28 #[.int .i64 (n : Int)] w (GraphOk (List.replicate n []) (upto n) true w) := by
  have e1 : (decide ((1 : Int) ≤ (n : Int)) && decide ((n : Int) ≤ 10)) = true := by simp; omega
  have HI := fun W => l1In_any (n : Int) 1 10 W
  rw [e1] at HI
  have HC := Lib.hid HI
  obtain ⟨csN, hcN, mN⟩ := make_alloc elemN rfl n (by omega)
  have HCN := Lib.hid hcN
  clear HI e1 hcN
  go_enter Try.func28, Try.ntmps28
  go_wp2_with fail
  refine (HC.out _).mono ?_
  rintro e w1 ⟨rfl, rfl⟩
  go_wp2_with fail
  have h3 : Hid (Blk2 (((w.alloc (.cells #[.slice none 0 0, .slice none 0 0] 26)).alloc (.cells csN 24)).alloc (.cells #[.slice (some ⟨w.heap.size + 1, 0, none⟩) n n, .slice none 0 0] 26)) (w.heap.size + 1 + 1) 26 (.slice (some ⟨w.heap.size + 1, 0, none⟩) n n) (.slice none 0 0) ∧
      Blk2 (((w.alloc (.cells #[.slice none 0 0, .slice none 0 0] 26)).alloc (.cells csN 24)).alloc (.cells #[.slice (some ⟨w.heap.size + 1, 0, none⟩) n n, .slice none 0 0] 26)) w.heap.size 26 (.slice none 0 0) (.slice none 0 0) ∧
      (((w.alloc (.cells #[.slice none 0 0, .slice none 0 0] 26)).alloc (.cells csN 24)).alloc (.cells #[.slice (some ⟨w.heap.size + 1, 0, none⟩) n n, .slice none 0 0] 26)).ownsRow (w.heap.size + 1) 24 1 (.slice (some ⟨w.heap.size + 1, 0, none⟩) n n) n (List.replicate n (.slice none 0 0)) ∧
      Below w.heap.size w (((w.alloc (.cells #[.slice none 0 0, .slice none 0 0] 26)).alloc (.cells csN 24)).alloc (.cells #[.slice (some ⟨w.heap.size + 1, 0, none⟩) n n, .slice none 0 0] 26))) := by
    obtain ⟨k0, k1, k2, k3, kb⟩ := four_new w #[.slice none 0 0, .slice none 0 0] csN #[.slice (some ⟨w.heap.size + 1, 0, none⟩) n n, .slice none 0 0] #[] 26 24 26 0
    have e3 : (((w.alloc (.cells #[.slice none 0 0, .slice none 0 0] 26)).alloc (.cells csN 24)).alloc (.cells #[.slice (some ⟨w.heap.size + 1, 0, none⟩) n n, .slice none 0 0] 26)).heap.size = w.heap.size + 1 + 1 + 1 := by simp
    have o3 := Below.heap_alloc (((w.alloc (.cells #[.slice none 0 0, .slice none 0 0] 26)).alloc (.cells csN 24)).alloc (.cells #[.slice (some ⟨w.heap.size + 1, 0, none⟩) n n, .slice none 0 0] 26)) (.cells #[] 0)
    refine ⟨(o3 _ (by omega)).symm.trans k2, (o3 _ (by omega)).symm.trans k0, own_of_heap ((o3 _ (by omega)).symm.trans k1) (Nat.le_refl _) HCN.out (by simp) (by unfold maxLen; omega), ?_⟩
    exact (((Below.refl w.heap.size w).alloc (Nat.le_refl _) _).alloc (by simp) _).alloc (by simp; omega) _
  have e3 : w.heap.size + 1 + 1 + 1 ≤ (((w.alloc (.cells #[.slice none 0 0, .slice none 0 0] 26)).alloc (.cells csN 24)).alloc (.cells #[.slice (some ⟨w.heap.size + 1, 0, none⟩) n n, .slice none 0 0] 26)).heap.size := by simp
  clear mN HCN HC
  generalize (((w.alloc (.cells #[.slice none 0 0, .slice none 0 0] 26)).alloc (.cells csN 24)).alloc (.cells #[.slice (some ⟨w.heap.size + 1, 0, none⟩) n n, .slice none 0 0] 26)) = wb at *
  go_loopw [5] (fun i wr => ∃ (k : Nat) (qv : Value), k ≤ n ∧ i = .int .i64 k ∧ Hid (wr.ownsRow (w.heap.size + 1 + 1 + 1) 3 1 qv (upto k).length (I (upto k))) ∧ Hid (wr.ownsRow (w.heap.size + 1) 24 1 (.slice (some ⟨w.heap.size + 1, 0, none⟩) n n) n (List.replicate n (.slice none 0 0))) ∧ Hid (Blk2 wr (w.heap.size + 1 + 1) 26 (.slice (some ⟨w.heap.size + 1, 0, none⟩) n n) qv) ∧ Hid (Blk2 wr w.heap.size 26 (.slice none 0 0) (.slice none 0 0)) ∧ Hid (Below w.heap.size w wr) ∧ w.heap.size + 1 + 1 + 1 ≤ wr.heap.size) (fun i _ => n - (intOf i).toNat)
  case atStart => exact ⟨0, _, Nat.zero_le _, rfl, none_ownZ _ _ _, h3.out.2.2.1, h3.out.1, h3.out.2.1, h3.out.2.2.2, e3⟩
  case round =>
    clear h3 e3
    obtain ⟨k, qv, hk, rfl, HO, HR, HP, HQ, HB, hz⟩ := hrel
    obtain ⟨qa, qc, rfl⟩ := own_slice HO.out
    rw [upto_len] at HO HP
    have p0 := HP.out.cells.1
    have p1 := HP.out.cells.2
    by_cases hlt : k < n
    · have HNA : Hid (wr.ownsRow (w.heap.size + 1 + 1 + 1) 3 1 (.slice qa k qc) (I (upto k)).length (I (upto k))) := by rw [I_len, upto_len]; exact HO.out
      have hIl : (I (upto k)).length ≤ 1000000 := by rw [I_len, upto_len]; omega
      have hq : ∀ i, (Value.slice qa k qc).ownBlock = some i → w.heap.size + 1 + 1 + 1 ≤ i := fun i hi => (HO.out.lt i hi).1
      have HQB := Lib.hid hq
      have HUS := Lib.hid (upto_succ k)
      clear HO hq
      go_wp2_with (at_builtin; refine wpAppOne elemI rfl _ _ rfl (w.heap.size + 1 + 1 + 1) _ (I (upto k)) rfl HNA.out _ rfl rfl rfl hIl hz ?_; intro v7 w7 hown7 hg7; have HO7 := Lib.hid (own_Z2 hown7); have HP7 := Lib.hid (HP.out.beside hg7 (fun e => by have := HQB.out _ e; omega)); have HQ7 := Lib.hid (HQ.out.beside hg7 (fun e => by have := HQB.out _ e; omega)); have HR7 := Lib.hid (own_apartI HR.out hg7 (fun i hi hi' => by have h1 := HQB.out _ hi; have h2 : w.heap.size + 1 = i := Option.some.inj hi'; omega)); have HB7 := Lib.hid (HB.out.trans ((Below.refl w.heap.size wr).grown hg7 HB.out.size (fun i hi => by have := HQB.out _ hi; omega))); have hz7 := Nat.le_trans hz hg7.size; obtain ⟨ya, yc, rfl⟩ := own_slice HO7.out; rw [← HUS.out] at HO7; have r1 := HP7.out.cells.2; have f1 := HP7.out.soft 1; clear hown7 hg7)
      have HO9 : Hid (w7.ownsRow (w.heap.size + 1 + 1 + 1) 3 1 (.slice ya ((upto k).length + 1) yc) (upto (k + 1)).length (I (upto (k + 1)))) := by
        have h := HO7.out
        have hle : (upto (k + 1)).length = (upto k).length + 1 := by rw [upto_len, upto_len]
        rw [hle] at h ⊢
        exact h
      have HO8 := Lib.hid (own_setI HO9.out (p := ⟨w.heap.size + 1 + 1, 1, none⟩) (Nat.lt_succ_self _) (.slice ya ((upto k).length + 1) yc))
      have HR8 := Lib.hid (own_setNe HR7.out (p := ⟨w.heap.size + 1 + 1, 1, none⟩) (fun e => by have h2 : w.heap.size + 1 = w.heap.size + 1 + 1 := Option.some.inj e; omega) (.slice ya ((upto k).length + 1) yc))
      have HP8 := Lib.hid (HP7.out.set1 (.slice ya ((upto k).length + 1) yc))
      have HQ8 := Lib.hid (HQ7.out.setNe (p := ⟨w.heap.size + 1 + 1, 1, none⟩) (by show w.heap.size ≠ w.heap.size + 1 + 1; omega) (.slice ya ((upto k).length + 1) yc))
      have HB8 := Lib.hid (HB7.out.setCell (p := ⟨w.heap.size + 1 + 1, 1, none⟩) (by show w.heap.size ≤ w.heap.size + 1 + 1; omega) (.slice ya ((upto k).length + 1) yc))
      have hz8 : w.heap.size + 1 + 1 + 1 ≤ (w7.setCell ⟨w.heap.size + 1 + 1, 1, none⟩ (.slice ya ((upto k).length + 1) yc)).heap.size := by simpa using hz7
      go_roundw
      case rel => exact ⟨k + 1, _, by omega, by go_num, HO8, HR8, HP8, HQ8, HB8, hz8⟩
      case measure => simp [intOf]; omega
    · obtain rfl : k = n := by omega
      have q0 := HQ.out.cells.1
      have q1 := HQ.out.cells.2
      have f0 := HQ.out.soft 0
      have f1 := HQ.out.soft 1
      have HZ := Lib.hid ((HQ.out.set0 (.slice (some ⟨w.heap.size + 1, 0, none⟩) k k)).set1 (.slice qa k qc))
      go_wp2_with fail
      refine bodyPost_ret (results_cell2 rfl rfl (load_store2 HZ.out.cells.1 HZ.out.cells.2)) rfl ?_
      have hz : w.heap.size < w.heap.size + 1 := Nat.lt_succ_self _
      have r1 := own_setI (own_setI HR.out (p := ⟨w.heap.size, 0, none⟩) hz (.slice (some ⟨w.heap.size + 1, 0, none⟩) k k)) (p := ⟨w.heap.size, 1, none⟩) hz (.slice qa k qc)
      have r2 := own_setI (own_setI HO.out (p := ⟨w.heap.size, 0, none⟩) (by show w.heap.size < w.heap.size + 1 + 1 + 1; omega) (.slice (some ⟨w.heap.size + 1, 0, none⟩) k k)) (p := ⟨w.heap.size, 1, none⟩) (by show w.heap.size < w.heap.size + 1 + 1 + 1; omega) (.slice qa k qc)
      refine ⟨_, rfl, ⟨_, _, List.replicate k (.slice none 0 0), rfl, by simp, by rw [List.length_replicate]; exact own_base r1 (Nat.le_succ _), (nil_lists _ _ k).more (by rw [upto_len]; exact own_base r2 (by omega)) (fun p hp i hi => ?_)⟩, (HB.out.setCell (p := ⟨w.heap.size, 0, none⟩) (Nat.le_refl _) _).setCell (p := ⟨w.heap.size, 1, none⟩) (Nat.le_refl _) _⟩
      rw [List.zip_replicate'] at hp
      rw [List.eq_of_mem_replicate hp] at hi
      simp [Value.ownBlock] at hi
end Go.Proofs.Ytpjmdljjmknpkaa

/- A queue of numbers in memory of the call's own: cut at its front, put behind. -/
namespace Go.Proofs.Ytpjmdljjmknpkaa
open Go.RowKit Pth

/-- A queue in block g. -/
structure OwnQ (B g : Nat) (w : World) (v : Value) (xs : List Int) : Prop where
  hB : B ≤ g
  lies : ∃ o cap cur, v = .slice (some ⟨g, o, none⟩) xs.length cap ∧ w.heap[g]? = some (.cells cur 3 (0, 0)) ∧ xs.length ≤ cap ∧ cap ≤ maxLen ∧ o + cap ≤ cur.size ∧ ∀ j (hj : j < xs.length), w.cell? ⟨g, o + j, none⟩ = some (.int .i64 xs[j])
theorem OwnQ.row {B g : Nat} {w : World} {v : Value} {xs : List Int} (h : OwnQ B g w v xs) : RowV w v (I xs) := by
  obtain ⟨o, cap, cur, hv, hh, h1, h2, h3, hc⟩ := h.lies
  refine ⟨_, cap, by rw [hv, I_len], by rw [I_len]; exact h1, h2, fun k hk => ⟨g, o, rfl, lt_of_block hh, ?_⟩⟩
  rw [I_len] at hk
  rw [hc k hk]
  simp [I]
theorem OwnQ.keep {B g : Nat} {w w' : World} {v : Value} {xs : List Int} (h : OwnQ B g w v xs) (hg : w'.heap[g]? = w.heap[g]?) : OwnQ B g w' v xs := by
  obtain ⟨o, cap, cur, hv, hh, h1, h2, h3, hc⟩ := h.lies
  have hh' := hg.trans hh
  refine ⟨h.hB, o, cap, cur, hv, hh', h1, h2, h3, fun j hj => ?_⟩
  have := hc j hj
  rw [cell_of_row w g (o + j) cur _ (0, 0) hh] at this
  rw [cell_of_row w' g (o + j) cur _ (0, 0) hh']
  exact this
theorem OwnQ.lt {B g : Nat} {w : World} {v : Value} {xs : List Int} (h : OwnQ B g w v xs) : g < w.heap.size := by
  obtain ⟨o, cap, cur, hv, hh, _⟩ := h.lies
  exact lt_of_block hh
theorem OwnQ.below {B g : Nat} {w w' : World} {v : Value} {xs : List Int} (h : OwnQ B g w v xs) (hb : Below w.heap.size w w') : OwnQ B g w' v xs := h.keep (hb.block g h.lt)
/-- Without its first. -/
theorem OwnQ.pop {B g : Nat} {w : World} {v : Value} {x : Int} {xs : List Int} (h : OwnQ B g w v (x :: xs)) :
    ∃ a cap v', v = .slice a (xs.length + 1) cap ∧ (∀ W, (Instr.slice 24 (.slice a (xs.length + 1) cap) (some (.int .i64 1)) none none).run Try.prog W = .ok v' W) ∧ OwnQ B g w v' xs := by
  obtain ⟨o, cap, cur, hv, hh, h1, h2, h3, hc⟩ := h.lies
  rw [List.length_cons] at hv h1
  refine ⟨_, cap, _, hv, fun W => run_cutI (some ⟨g, o, none⟩) (xs.length + 1) cap 1 (by omega) h1 W, h.hB, ?_⟩
  have rest : ∀ j (hj : j < xs.length), w.cell? ⟨g, o + 1 + j, none⟩ = some (.int .i64 xs[j]) := by
    intro j hj
    have := hc (j + 1) (by simp; omega)
    rw [show o + 1 + j = o + (j + 1) by omega, this]
    simp
  by_cases hcap : cap = 1
  · refine ⟨o, 0, cur, ?_, hh, by omega, by unfold maxLen; omega, by omega, fun j hj => by omega⟩
    have : xs.length = 0 := by omega
    rw [if_pos hcap, hcap, this]
  · refine ⟨o + 1, cap - 1, cur, ?_, hh, by omega, by omega, by omega, rest⟩
    rw [if_neg hcap]
    simp [add_addr]
/-- One put behind. -/
theorem OwnQ.push {B g : Nat} {w : World} {v : Value} {xs : List Int} (h : OwnQ B g w v xs) (k : Int) (hl : xs.length ≤ 1000) (ty : TypeId) :
    ∃ v' w' g', (Builtin.append_ #[24, 24] ty #[v, .slice (some ⟨w.heap.size, 0, none⟩) 1 1]).run Try.prog (w.alloc (.cells #[.int .i64 k] 3)) = .ok v' w' ∧ OwnQ B g' w' v' (xs ++ [k]) ∧ w.grownBy w' (some g) ∧ (g' = g ∨ w.heap.size < g') := by
  obtain ⟨i0, hi, hz0, hz1, hz2⟩ := info_parts elemI.info
  have hgs := h.lt
  obtain ⟨o, cap, cur, hv, hh, h1, h2, h3, hc⟩ := h.lies
  have hB := h.hB
  subst hv
  have hnews : ∀ j u, [Value.int .i64 k][j]? = some u → (w.alloc (.cells #[.int .i64 k] 3)).cell? ((⟨w.heap.size, 0, none⟩ : Addr).add j) = some u := one_new w _ _
  have hone : ∀ u ∈ [Value.int .i64 k], u.oneCell' = true := by intro u hu; simp at hu; subst hu; rfl
  have hha : (w.alloc (.cells #[.int .i64 k] 3)).heap[g]? = some (.cells cur 3 (0, 0)) := (Below.heap_alloc w _ g hgs).trans hh
  have hca : ∀ j (hj : j < xs.length), (w.alloc (.cells #[.int .i64 k] 3)).cell? ⟨g, o + j, none⟩ = some (.int .i64 xs[j]) := fun j hj => (World.cell?_alloc_lt w _ _ hgs).trans (hc j hj)
  by_cases hroom : xs.length + 1 ≤ cap
  · have hr := run_append_room_cells (P := Try.prog) (w.alloc (.cells #[.int .i64 k] 3)) 24 ty 3 i0 elemI.under hi g o xs.length cap ⟨w.heap.size, 0, none⟩ 1 1 [.int .i64 k] (by rw [hz1]; rfl) hnews hone hroom
      (fun j hj => by
        have : j = 0 := by simp at hj; omega
        subst this
        rw [hz1, Nat.mul_one, Nat.add_zero, cell_of_row _ g _ cur _ (0, 0) hha, Array.getElem?_eq_getElem (by omega)]; rfl)
      (fun j hj => frozen_of_row _ g _ cur _ hha)
    have e1 : (w.alloc (.cells #[.int .i64 k] 3)).setCells g (o + xs.length * i0.size) [.int .i64 k] = (w.alloc (.cells #[.int .i64 k] 3)).setCell ⟨g, o + xs.length, none⟩ (.int .i64 k) := by rw [hz1, Nat.mul_one]; rfl
    rw [e1] at hr
    have hset := heap_setCell_same (w.alloc (.cells #[.int .i64 k] 3)) g (o + xs.length) cur 3 (.int .i64 k) hha
    refine ⟨_, _, g, hr, ⟨hB, o, cap, _, by rw [List.length_append]; rfl, hset, by simp; omega, h2, by simpa using h3, fun j hj => ?_⟩, ⟨rfl, rfl, rfl, by simp, fun i hi hne => ?_⟩, .inl rfl⟩
    · rw [cell_of_row _ g _ _ _ (0, 0) hset]
      rw [List.length_append, List.length_singleton] at hj
      by_cases hjl : j < xs.length
      · have := hca j hjl
        rw [cell_of_row _ g _ cur _ (0, 0) hha] at this
        rw [List.getElem_append_left hjl, ← this]
        rw [Array.getElem?_setIfInBounds_ne (by omega)]
      · have hje : j = xs.length := by omega
        subst hje
        rw [Array.getElem?_setIfInBounds_self_of_lt (by omega)]
        simp
    · rw [Below.heap_setCell _ _ _ _ (fun e => hne (by rw [e]))]
      exact Below.heap_alloc w _ i hi
  · obtain ⟨v', w', hr, hown, hg⟩ := run_append_arg_grows (P := Try.prog) (w.alloc (.cells #[.int .i64 k] 3)) 24 ty 3 i0 (.int .i64 0) 1 8 elemI.under hi hz0 hz1 hz2 rfl (by decide) ⟨g, o, none⟩ xs.length cap (I xs) (by rw [I_len, Nat.mul_one])
      (fun j u hj => by
        obtain ⟨hj1, hj2⟩ := List.getElem?_eq_some_iff.1 hj
        rw [I_len] at hj1
        rw [add_addr, hca j hj1, ← hj2, I_get hj1])
      ⟨w.heap.size, 0, none⟩ 1 1 [.int .i64 k] rfl hnews (by omega) (by unfold maxLen; omega) (by omega)
    have hcat : I xs ++ [Value.int .i64 k] = I (xs ++ [k]) := by rw [I_append]; rfl
    rw [hcat] at hown
    rcases hown.2 with ⟨_, h0⟩ | ⟨g', cap', cur', hv', hBg, hh', hn', hm', hs', ht'⟩
    · omega
    · have hsz : w.heap.size < g' := by simp at hBg; omega
      refine ⟨v', w', g', hr, ⟨by omega, 0, cap', cur', by rw [hv', List.length_append]; rfl, hh', by rw [List.length_append]; exact hn', hm', by omega, fun j hj => ?_⟩, ⟨hg.os, hg.tape, hg.output, Nat.le_trans (by simp) hg.size, fun i hi hne => (hg.block i (by simp; omega) (by simp)).trans (Below.heap_alloc w _ i hi)⟩, .inr hsz⟩
      subst hv'
      have := hown.cellAt j (by rw [List.length_append] at hj; simpa using hj)
      rw [Nat.zero_add, this, List.getElem?_eq_getElem (by rw [I_len]; exact hj), I_get hj]
end Go.Proofs.Ytpjmdljjmknpkaa

/- Walks: copies of graphs. -/
namespace Go.Proofs.Ytpjmdljjmknpkaa
open Go.RowKit Pth

/-- All of a list copied into a new one. -/
theorem copy_all (l : List Int) (a : Option Addr) (cap : Nat) (W : World) (g : Nat) (cs : Array Value) (hrow : RowV W (.slice a l.length cap) (I l)) (hg : W.heap[g]? = some (.cells cs 3 (0, 0))) (hcs : cs.size = l.length) (hl : l.length ≤ 2000000) (B : Nat) (hB : B ≤ g) (hBW : B ≤ W.heap.size) :
    ∃ W', (∀ ty, (Builtin.copy_ #[24, 24] ty #[.slice (some ⟨g, 0, none⟩) l.length l.length, .slice a l.length cap]).run Try.prog W = .ok (goInt l.length) W') ∧ W'.ownsRow B 3 1 (.slice (some ⟨g, 0, none⟩) l.length l.length) l.length (I l) ∧ W.grownBy W' (some g) := by
  obtain ⟨a', c', he, h1, h2, hat⟩ := hrow.ints
  injection he with he1 _ he3
  subst he1 he3
  by_cases h0 : l.length = 0
  · have hl0 : l = [] := List.eq_nil_of_length_eq_zero h0
    subst hl0
    refine ⟨W, fun ty => run_copy_none (P := Try.prog) W 24 24 ty 3 _ _ _ _ _ _ Try.underlying24 (by kernel_rfl) rfl, ?_, grown_refl _ _⟩
    exact own_of_heap hg hB (by have : cs.size = 0 := hcs; rw [Array.eq_empty_of_size_eq_zero this]; rfl) rfl (by unfold maxLen; omega)
  · obtain ⟨g0, o0, rfl, hg0, _⟩ := hat 0 (by omega)
    have hsrc : ∀ j u, (I l)[j]? = some u → W.cell? ((⟨g0, o0, none⟩ : Addr).add j) = some u := by
      intro j u hj
      obtain ⟨hj1, hj2⟩ := List.getElem?_eq_some_iff.1 hj
      rw [I_len] at hj1
      obtain ⟨g', o', he, hg', hc⟩ := hat j hj1
      obtain ⟨rfl, rfl⟩ := addr_inj he
      rw [add_addr, hc, ← hj2, I_get hj1]
    have hrun := fun ty => run_copy_row (P := Try.prog) W 24 24 ty 3 g 0 l.length l.length ⟨g0, o0, none⟩ l.length cap cs 3 (I l) Try.underlying24 (by kernel_rfl) hg (by rw [I_len]; simp) hsrc (by rw [I_len, hcs]; omega) (I_one l)
    rw [I_len] at hrun
    refine ⟨_, hrun, ?_, ?_⟩
    · have hn := setRow_heap W g _ (cs.toList.take 0 ++ I l ++ cs.toList.drop (0 + l.length)).toArray _ _ hg
      have he : (cs.toList.take 0 ++ I l ++ cs.toList.drop (0 + l.length)) = I l := by
        rw [List.take_zero, List.nil_append, List.drop_of_length_le (by rw [Array.length_toList]; omega), List.append_nil]
      rw [he] at hn ⊢
      exact own_of_heap hn hB (by simp) (I_len l) (by unfold maxLen; omega)
    · exact ⟨rfl, rfl, rfl, by simp [World.setRow], fun k _ hk => setRow_other W g k _ (fun e => hk (by rw [e]))⟩

set_option maxRecDepth 20000 in
set_option maxHeartbeats 2000000 in
theorem ownTasks_any (l : List Int) (v : Value) (w : World) (hrow : RowV w v (I l)) (hl : l.length ≤ 2000000) :
    Calls Try.prog 115 #[v] w (IntsPost w.heap.size l w) := by
  obtain ⟨a, cap, rfl, hc1, hc2, _⟩ := hrow.ints
  unfold maxLen at hc2
  obtain ⟨cs, hcs, mI⟩ := make_alloc elemI rfl l.length hl
  obtain ⟨w7, hrun, hown, hg⟩ := copy_all l a cap (w.alloc (.cells cs 3)) w.heap.size cs (hrow.alloc _) (heap_alloc_new w _) (by rw [← Array.length_toList, hcs]; simp) hl w.heap.size (Nat.le_refl _) (by simp)
  have HO := Lib.hid hown
  have HB : Hid (Below w.heap.size w w7) := ((Below.refl w.heap.size w).alloc (Nat.le_refl _) _).trans (only_below hg (Nat.le_refl _) (by simp))
  clear hown hg hcs hrow
  go_enter Try.func115, Try.ntmps115
  go_wp2_with fail
  go_ret
  exact ⟨_, rfl, HO.out, HB.out⟩
end Go.Proofs.Ytpjmdljjmknpkaa
