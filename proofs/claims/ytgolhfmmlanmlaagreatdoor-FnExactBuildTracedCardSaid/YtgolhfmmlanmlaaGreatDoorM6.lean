/- Texts of one claim, joined in their order. -/
import Derived.Test.YtgolhfmmlanmlaaGreatDoorM1
import Derived.Test.YtgolhfmmlanmlaaGreatDoorM3
import Derived.Test.YtgolhfmmlanmlaaGreatDoorM5
import Derived.Test.YtgolhfmmlanmlaaGreatDoorM2

/- Walks: whether a number is in a list, whether numbers rise (as chapter 2 has them). -/
namespace Go.Proofs.YtgolhfmmlanmlaaGreatDoor
open Go.RowKit Pth

theorem has_next {l : List Int} {n : Int} {k : Nat} (hk : k < l.length) (h : hasL l n = hasL (l.drop k) n) (hn : l[k] ≠ n) : hasL l n = hasL (l.drop (k + 1)) n := by
  rw [h, List.drop_eq_getElem_cons hk, hasL, hasL, Bool.eq_iff_iff, decide_eq_true_iff, decide_eq_true_iff, List.mem_cons]
  constructor
  · rintro (h | h)
    · exact absurd h.symm hn
    · exact h
  · exact .inr

set_option maxHeartbeats 1000000 in
theorem l1Rising_any (l : List Int) (lo hi : Int) (v : Value) (w : World) (hrow : RowV w v (I l)) :
    Calls Tryz.prog 126 #[v, .int .i64 lo, .int .i64 hi] w fun e w' => e = .returned (.bool (riseB lo hi l)) ∧ w = w' := by
  obtain ⟨a, cap, rfl, hc1, hc2, hat⟩ := hrow.ints
  clear hrow
  unfold maxLen at hc2
  go_enter Tryz.func126, Tryz.ntmps126
  go_wp2_with fail
  go_loop [11] (fun i => ∃ k : Nat, k ≤ l.length ∧ i = .int .i64 k ∧ Hid (Rise (l.take k) ∧ Within lo hi (l.take k))) (fun i => l.length - (intOf i).toNat)
  case atStart => exact ⟨0, Nat.zero_le _, rfl, by simp [Rise, Hid, Within]⟩
  case round =>
    obtain ⟨k, hk, rfl, HO⟩ := hrel
    by_cases hlt : k < l.length
    · obtain ⟨g, o, rfl, hg, hcell⟩ := hat k hlt
      by_cases hx : lo ≤ l[k] ∧ l[k] ≤ hi
      · have hx1 : (decide (lo ≤ l[k]) && decide (l[k] ≤ hi)) = true := by simp [hx]
        by_cases h0 : 0 < k
        · obtain ⟨g', o', hA, _, hcell0⟩ := hat (k - 1) (by omega)
          injection hA with hA
          injection hA with hA1 hA2
          subst hA1 hA2
          by_cases hy : l[k - 1] < l[k]
          · have HR : Hid (Rise (l.take (k + 1)) ∧ Within lo hi (l.take (k + 1))) := rise_next hlt HO.out hx.1 hx.2 (fun _ => hy)
            generalize l[k] = x at hcell hx hx1 hy
            generalize l[k - 1] = y at hcell0 hy
            clear hat HO hx
            have hk0 : decide ((k : Int) > 0) = true := by simp; omega
            have hy1 : decide (y ≥ x) = false := by simp; omega
            go_wp2_with (go_at_call 124; refine (l1In_any _ _ _ _).mono ?_; rintro e w' ⟨rfl, rfl⟩)
            all_goals
              go_round
              case rel => exact ⟨k + 1, by omega, by go_num, HR⟩
              case measure => simp [intOf]; omega
          · have HR : Hid (riseB lo hi l = false) := rise_fall hlt h0 (by omega)
            generalize l[k] = x at hcell hx hx1 hy
            generalize l[k - 1] = y at hcell0 hy
            clear hat HO hx
            have hk0 : decide ((k : Int) > 0) = true := by simp; omega
            have hy1 : decide (y ≥ x) = true := by simp; omega
            go_wp2_with (go_at_call 124; refine (l1In_any _ _ _ _).mono ?_; rintro e w' ⟨rfl, rfl⟩)
            all_goals
              go_ret
              exact ⟨ret_bool HR.out.symm, rfl⟩
        · have HR : Hid (Rise (l.take (k + 1)) ∧ Within lo hi (l.take (k + 1))) := rise_next hlt HO.out hx.1 hx.2 (fun h => absurd h h0)
          generalize l[k] = x at hcell hx hx1
          clear hat HO hx
          have hk0 : decide ((k : Int) > 0) = false := by simp; omega
          go_wp2_with (go_at_call 124; refine (l1In_any _ _ _ _).mono ?_; rintro e w' ⟨rfl, rfl⟩)
          all_goals
            go_round
            case rel => exact ⟨k + 1, by omega, by go_num, HR⟩
            case measure => simp [intOf]; omega
      · have HR : Hid (riseB lo hi l = false) := rise_out hlt (by omega)
        have hx1 : (decide (lo ≤ l[k]) && decide (l[k] ≤ hi)) = false := by
          rw [Bool.eq_false_iff]; intro h; rw [Bool.and_eq_true, decide_eq_true_iff, decide_eq_true_iff] at h; exact hx h
        generalize l[k] = x at hcell hx hx1
        clear hat HO hx
        go_wp2_with (go_at_call 124; refine (l1In_any _ _ _ _).mono ?_; rintro e w' ⟨rfl, rfl⟩)
        all_goals
          go_ret
          exact ⟨ret_bool HR.out.symm, rfl⟩
    · have HR : Hid (riseB lo hi l = true) := by have := HO.out; rw [List.take_of_length_le (by omega)] at this; exact riseB_iff.2 this
      clear HO hat
      go_wp2_with fail
      go_ret
      exact ⟨ret_bool HR.out.symm, rfl⟩

/-- All between two. -/
def allB (lo hi : Int) (l : List Int) : Bool := decide (∀ x ∈ l, lo ≤ x ∧ x ≤ hi)
set_option maxHeartbeats 1000000 in
theorem l1All_any (l : List Int) (lo hi : Int) (v : Value) (w : World) (hrow : RowV w v (I l)) :
    Calls Tryz.prog 125 #[v, .int .i64 lo, .int .i64 hi] w fun e w' => e = .returned (.bool (allB lo hi l)) ∧ w = w' := by
  obtain ⟨a, cap, rfl, hc1, hc2, hat⟩ := hrow.ints
  clear hrow
  unfold maxLen at hc2
  go_enter Tryz.func125, Tryz.ntmps125
  go_wp2_with fail
  go_loop [11] (fun i => ∃ k : Nat, k ≤ l.length ∧ i = .int .i64 k ∧ Hid (∀ x ∈ l.take k, lo ≤ x ∧ x ≤ hi)) (fun i => l.length - (intOf i).toNat)
  case atStart => exact ⟨0, Nat.zero_le _, rfl, by simp [Hid]⟩
  case round =>
    obtain ⟨k, hk, rfl, HO⟩ := hrel
    by_cases hlt : k < l.length
    · obtain ⟨g, o, rfl, hg, hcell⟩ := hat k hlt
      by_cases hx : lo ≤ l[k] ∧ l[k] ≤ hi
      · have hx1 : (decide (lo ≤ l[k]) && decide (l[k] ≤ hi)) = true := by simp [hx]
        have HR : Hid (∀ x ∈ l.take (k + 1), lo ≤ x ∧ x ≤ hi) := by
          intro x hxm
          rw [List.take_succ_eq_append_getElem hlt, List.mem_append, List.mem_singleton] at hxm
          rcases hxm with h | h
          · exact HO.out x h
          · rw [h]; exact hx
        generalize l[k] = x at hcell hx hx1
        clear hat HO hx
        go_wp2_with (go_at_call 124; refine (l1In_any _ _ _ _).mono ?_; rintro e w' ⟨rfl, rfl⟩)
        all_goals
          go_round
          case rel => exact ⟨k + 1, by omega, by go_num, HR⟩
          case measure => simp [intOf]; omega
      · have HR : Hid (allB lo hi l = false) := by
          rw [allB, decide_eq_false_iff_not]; exact fun h => hx (h _ (List.getElem_mem hlt))
        have hx1 : (decide (lo ≤ l[k]) && decide (l[k] ≤ hi)) = false := by
          rw [Bool.eq_false_iff]; intro h; rw [Bool.and_eq_true, decide_eq_true_iff, decide_eq_true_iff] at h; exact hx h
        generalize l[k] = x at hcell hx hx1
        clear hat HO hx
        go_wp2_with (go_at_call 124; refine (l1In_any _ _ _ _).mono ?_; rintro e w' ⟨rfl, rfl⟩)
        all_goals
          go_ret
          exact ⟨ret_bool HR.out.symm, rfl⟩
    · have HR : Hid (allB lo hi l = true) := by have := HO.out; rw [List.take_of_length_le (by omega)] at this; rw [allB, decide_eq_true_iff]; exact this
      clear HO hat
      go_wp2_with fail
      go_ret
      exact ⟨ret_bool HR.out.symm, rfl⟩

end Go.Proofs.YtgolhfmmlanmlaaGreatDoor

/- Walks: the place of a number in a list; whether a graph is good, as the reference has it. -/
namespace Go.Proofs.YtgolhfmmlanmlaaGreatDoor
open Go.RowKit Pth

theorem not_take {l : List Int} {n : Int} {k : Nat} (hk : k < l.length) (h : n ∉ l.take k) (hx : ¬ l[k] = n) : n ∉ l.take (k + 1) := by
  rw [List.take_succ_eq_append_getElem hk, List.mem_append, List.mem_singleton]
  rintro (h' | h')
  · exact h h'
  · exact hx h'.symm
theorem ret_int {a b : Int} (h : a = b) : Ending.returned (.int .i64 a) = .returned (.int .i64 b) := by rw [h]

set_option maxHeartbeats 1000000 in
theorem l5Place_any (l : List Int) (n : Int) (v : Value) (w : World) (hrow : RowV w v (I l)) :
    Calls Tryz.prog 127 #[v, .int .i64 n] w fun e w' => e = .returned (.int .i64 (placeI l n)) ∧ w = w' := by
  obtain ⟨a, cap, rfl, hc1, hc2, hat⟩ := hrow.ints
  clear hrow
  unfold maxLen at hc2
  go_enter Tryz.func127, Tryz.ntmps127
  go_wp2_with fail
  go_loop [9] (fun i => ∃ k : Nat, k ≤ l.length ∧ i = .int .i64 k ∧ Hid (n ∉ l.take k)) (fun i => l.length - (intOf i).toNat)
  case atStart => exact ⟨0, Nat.zero_le _, rfl, by simp [Hid]⟩
  case round =>
    obtain ⟨k, hk, rfl, HO⟩ := hrel
    by_cases hlt : k < l.length
    · obtain ⟨g, o, rfl, hg, hcell⟩ := hat k hlt
      clear hat
      by_cases hx : l[k] = n
      · have HR : Hid (placeI l n = k) := place_at hlt HO.out hx
        have hx1 : (l[k] == n) = true := by simp [hx]
        generalize l[k] = x at hcell hx hx1
        clear HO hx
        go_wp2_with fail
        go_ret
        exact ⟨ret_int HR.out.symm, rfl⟩
      · have HR : Hid (n ∉ l.take (k + 1)) := not_take hlt HO.out hx
        have hx1 : (l[k] == n) = false := by simp [hx]
        generalize l[k] = x at hcell hx hx1
        clear HO hx
        go_wp2_with fail
        go_round
        case rel => exact ⟨k + 1, by omega, by go_num, HR⟩
        case measure => simp [intOf]; omega
    · have HR : Hid (placeI l n = -1) := by have := HO.out; rw [List.take_of_length_le (by omega)] at this; exact place_none this
      clear HO hat
      go_wp2_with fail
      go_ret
      exact ⟨ret_int HR.out.symm, rfl⟩

/-- One task is as it should be. -/
def TaskOk (ls : List (List Int)) (l : List Int) (k : Nat) (hk : k < ls.length) : Prop := (Rise ls[k] ∧ Within 0 ((ls.length : Int) - 1) ls[k]) ∧ (k : Int) ∈ l ∧ ∀ x ∈ ls[k], placeI l x < placeI l k

set_option maxRecDepth 20000 in
set_option maxHeartbeats 4000000 in
theorem specGood_any (ls : List (List Int)) (l : List Int) (v : Value) (w : World) (hst : GraphV w v ls l) :
    Calls Tryz.prog 102 #[v] w fun e w' => e = .returned (.bool (goodG ls l)) ∧ Below w.heap.size w w' := by
  obtain ⟨nv, ov, rfl, h1, h2⟩ := hst
  have H1 := Lib.hid h1
  have H2 := Lib.hid h2
  obtain ⟨an, cn, rfl, hn1, hn2, hat⟩ := h1.lists
  obtain ⟨ao, co, rfl, ho1, ho2, _⟩ := h2.ints
  clear h1 h2
  unfold maxLen at hn2 ho2
  have nog : ∀ {P : Prop}, (GoodG ls l → P) → ¬ P → Hid (goodG ls l = false) := fun h1 h2 => goodG_no (fun h => h2 (h1 h))
  obtain ⟨wa, hwa⟩ : ∃ wa, wa = w.alloc (.cells #[.slice an ls.length cn, .slice ao l.length co] 39) := ⟨_, rfl⟩
  have c0 : wa.cell? ⟨w.heap.size, 0, none⟩ = some (.slice an ls.length cn) := by rw [hwa]; simp
  have c1 : wa.cell? ⟨w.heap.size, 1, none⟩ = some (.slice ao l.length co) := by rw [hwa]; simp
  have HA : Hid (Below w.heap.size w wa) := by rw [hwa]; exact (Below.refl w.heap.size w).alloc (Nat.le_refl _) _
  have HWA := Lib.hid hwa
  clear hwa
  have CI := l1In_any (ls.length : Int) 1 10 wa
  have CA := l1All_any l 0 ((ls.length : Int) - 1) _ wa (H2.out.below HA.out)
  by_cases h1 : 1 ≤ ls.length ∧ ls.length ≤ 10
  · have e1 : (decide ((1 : Int) ≤ (ls.length : Int)) && decide ((ls.length : Int) ≤ 10)) = true := by simp; omega
    rw [e1] at CI
    have HCI := Lib.hid CI
    clear CI e1
    by_cases h2 : l.length = ls.length
    · have e2 : ((l.length : Int) != (ls.length : Int)) = false := by simp [h2]
      have HL := Lib.hid h2
      by_cases h3 : ∀ x ∈ l, 0 ≤ x ∧ x ≤ (ls.length : Int) - 1
      · have e3 : allB 0 ((ls.length : Int) - 1) l = true := by rw [allB, decide_eq_true_iff]; exact h3
        rw [e3] at CA
        have HCA := Lib.hid CA
        have H3 := Lib.hid h3
        clear CA e3 h3 h2
        obtain ⟨h1a, h1b⟩ := h1
        go_enter Tryz.func102, Tryz.ntmps102
        go_wp2_with fail
        rw [← HWA.out]
        refine HCI.out.mono ?_
        rintro e w1 ⟨rfl, rfl⟩
        go_wp2_with fail
        refine HCA.out.mono ?_
        rintro e w1 ⟨rfl, rfl⟩
        go_wp2_with fail
        clear HCI HCA HWA e2
        have hsz : w.heap.size < wa.heap.size := by exact World.block_lt_of_cell? _ _ c0
        go_loopw [32] (fun i wr => ∃ k : Nat, k ≤ ls.length ∧ i = .int .i64 k ∧ Hid (∀ j (hj : j < ls.length), j < k → TaskOk ls l j hj) ∧ Below wa.heap.size wa wr) (fun i _ => ls.length - (intOf i).toNat)
        case atStart => exact ⟨0, Nat.zero_le _, rfl, fun j hj h => by omega, Below.refl _ _⟩
        case round =>
          obtain ⟨k, hk, rfl, HO, hb⟩ := hrel
          have HB := Lib.hid hb
          have HBW := Lib.hid (bth HA.out hb (Nat.le_refl _))
          have d0 := (hb.cell (p := ⟨w.heap.size, 0, none⟩) hsz).trans c0
          have d1 := (hb.cell (p := ⟨w.heap.size, 1, none⟩) hsz).trans c1
          have HC0 := Lib.hid c0
          have HC1 := Lib.hid c1
          clear hb c0 c1
          by_cases hlt : k < ls.length
          · obtain ⟨g, o, a2, c2, rfl, hg, hcell0, hrk⟩ := hat k hlt
            have hcell : wr.cell? ⟨g, o + k, none⟩ = some (.slice a2 ls[k].length c2) := by rw [HBW.out.cell (p := ⟨g, o + k, none⟩) hg]; exact hcell0
            have CR := l1Rising_any ls[k] 0 ((ls.length : Int) - 1) _ wr (hrk.below HBW.out)
            have CP := l5Place_any l (k : Int) _ wr (H2.out.below HBW.out)
            by_cases hr : Rise ls[k] ∧ Within 0 ((ls.length : Int) - 1) ls[k]
            · rw [riseB_iff.2 hr] at CR
              have HCR := Lib.hid CR
              clear CR
              by_cases hm : (k : Int) ∈ l
              · have hp0 : ¬ (placeI l k < 0) := by have := place_nonneg.2 hm; omega
                have HCP := Lib.hid CP
                have HRK := Lib.hid hrk
                have HM := Lib.hid hm
                have HRR := Lib.hid hr
                have hkl : ls[k].length ≤ c2 ∧ c2 ≤ maxLen := by obtain ⟨a3, c3, he, h1, h2, _⟩ := hrk.ints; injection he with _ _ he; omega
                obtain ⟨hkl1, hkl2⟩ := hkl
                obtain ⟨a3, c3, he3, _, _, hatk⟩ := hrk.ints
                injection he3 with he3 _ he4
                subst he3 he4
                unfold maxLen at hkl2
                clear CP hcell0 hm hr hat hrk
                generalize hpk : placeI l k = pk at hp0 HCP
                have HPK := Lib.hid hpk
                clear hpk
                go_wp2_with fail
                refine HCR.out.mono ?_
                rintro e w' ⟨rfl, rfl⟩
                go_wp2_with fail
                refine HCP.out.mono ?_
                rintro e w' ⟨rfl, rfl⟩
                go_wp2_with fail
                clear HCR HCP d0 d1 hcell
                go_loopw [51] (fun i wq => ∃ j : Nat, j ≤ ls[k].length ∧ i = .int .i64 j ∧ Hid (∀ x ∈ ls[k].take j, placeI l x < pk) ∧ Below wa.heap.size wa wq) (fun i _ => ls[k].length - (intOf i).toNat)
                case atStart => exact ⟨0, Nat.zero_le _, rfl, by simp [Hid], HB.out⟩
                case round =>
                  clear HB HBW
                  obtain ⟨j, hj, rfl, HJ, hb⟩ := hrel
                  have HB := Lib.hid hb
                  have HBW := Lib.hid (bth HA.out hb (Nat.le_refl _))
                  have d1 := (hb.cell (p := ⟨w.heap.size, 1, none⟩) hsz).trans HC1.out
                  have HP := Lib.hid (fun (q : Nat) (x : Int) => (l5Place_any l x _ (wr.drewN q) (H2.out.below (below_drewN HBW.out q))).mono (fun e w' ⟨h1, h2⟩ => And.intro h1 h2.symm))
                  clear hb
                  by_cases hjt : j < ls[k].length
                  · obtain ⟨g2, o2, rfl, hg2, hcell0⟩ := hatk j hjt
                    have hcell : wr.cell? ⟨g2, o2 + j, none⟩ = some (.int .i64 ls[k][j]) := by rw [HBW.out.cell (p := ⟨g2, o2 + j, none⟩) hg2]; exact hcell0
                    clear hcell0 hatk
                    by_cases hx : placeI l ls[k][j] < pk
                    · have hx1 : decide (placeI l ls[k][j] ≥ pk) = false := by simp; omega
                      have HJ2 : Hid (∀ x ∈ ls[k].take (j + 1), placeI l x < pk) := by
                        intro x hxm
                        rw [List.take_succ_eq_append_getElem hjt, List.mem_append, List.mem_singleton] at hxm
                        rcases hxm with h | h
                        · exact HJ.out x h
                        · rw [h]; exact hx
                      clear HJ hx
                      rw [← HPK.out] at hx1
                      generalize ls[k][j] = x at hcell hx1
                      go_wp2_with fail
                      go_quiet ((go_at_call 127; exact Calls.quiet_of_same (HP.out _ _)))
                      go_wp2_with fail
                      go_roundw
                      case rel => exact ⟨j + 1, by omega, by go_num, HJ2, below_drewN HB.out _⟩
                      case measure => simp [intOf]; omega
                    · have HR := nog (fun h => (h.each k hlt).2.2 _ (List.getElem_mem hjt)) (by rw [HPK.out]; exact hx)
                      have hx1 : decide (placeI l ls[k][j] ≥ pk) = true := by simp; omega
                      clear HJ hx
                      rw [← HPK.out] at hx1
                      generalize ls[k][j] = x at hcell hx1
                      go_wp2_with fail
                      go_quiet ((go_at_call 127; exact Calls.quiet_of_same (HP.out _ _)))
                      go_wp2_with fail
                      go_ret
                      exact ⟨ret_bool HR.out.symm, below_drewN HBW.out _⟩
                  · have HT : Hid (∀ i (hi : i < ls.length), i < k + 1 → TaskOk ls l i hi) := by
                      intro i hi hik
                      rcases Nat.lt_or_ge i k with h | h
                      · exact HO.out i hi h
                      · obtain rfl : i = k := by omega
                        refine ⟨HRR.out, HM.out, fun x hx => ?_⟩
                        rw [HPK.out]
                        have := HJ.out
                        rw [List.take_of_length_le (by omega)] at this
                        exact this x hx
                    clear HJ HO HP hatk
                    go_wp2_with fail
                    go_roundw
                    case rel => exact ⟨k + 1, by omega, by go_num, HT, HB.out⟩
                    case measure => simp [intOf]; omega
              · have hp0 : placeI l k < 0 := by rw [place_none hm]; omega
                have HCP := Lib.hid CP
                have HR := nog (fun h => (h.each k hlt).2.1) hm
                clear CP hcell0 hm hr hat nog hrk
                generalize placeI l k = pk at hp0 HCP
                go_wp2_with fail
                refine HCR.out.mono ?_
                rintro e w' ⟨rfl, rfl⟩
                go_wp2_with fail
                refine HCP.out.mono ?_
                rintro e w' ⟨rfl, rfl⟩
                go_wp2_with fail
                all_goals
                  go_ret
                  exact ⟨ret_bool HR.out.symm, HBW.out⟩
            · rw [riseB_false hr] at CR
              have HCR := Lib.hid CR
              have HR := nog (fun h => (h.each k hlt).1) hr
              clear CR CP hcell0 hr hat nog hrk
              go_wp2_with fail
              refine HCR.out.mono ?_
              rintro e w' ⟨rfl, rfl⟩
              go_wp2_with fail
              all_goals
                go_ret
                exact ⟨ret_bool HR.out.symm, HBW.out⟩
          · have HR : Hid (goodG ls l = true) := goodG_iff.2 ⟨h1a, h1b, HL.out, H3.out, fun j hj => HO.out j hj (by omega)⟩
            clear HO hat nog
            go_wp2_with fail
            go_ret
            exact ⟨ret_bool HR.out.symm, HBW.out⟩
      · have e3 : allB 0 ((ls.length : Int) - 1) l = false := by rw [allB, decide_eq_false_iff_not]; exact h3
        have HR := nog (fun h => h.tasks) h3
        rw [e3] at CA
        have HCA := Lib.hid CA
        clear CA e3 h3 h2 nog hat
        obtain ⟨h1a, h1b⟩ := h1
        go_enter Tryz.func102, Tryz.ntmps102
        go_wp2_with fail
        rw [← HWA.out]
        refine HCI.out.mono ?_
        rintro e w1 ⟨rfl, rfl⟩
        go_wp2_with fail
        refine HCA.out.mono ?_
        rintro e w1 ⟨rfl, rfl⟩
        go_wp2_with fail
        go_ret
        exact ⟨ret_bool HR.out.symm, HA.out⟩
    · have e2 : ((l.length : Int) != (ls.length : Int)) = true := by simp; omega
      have HR := nog (fun h => h.same) h2
      clear h2 nog CA hat
      obtain ⟨h1a, h1b⟩ := h1
      go_enter Tryz.func102, Tryz.ntmps102
      go_wp2_with fail
      rw [← HWA.out]
      refine HCI.out.mono ?_
      rintro e w1 ⟨rfl, rfl⟩
      go_wp2_with fail
      go_ret
      exact ⟨ret_bool HR.out.symm, HA.out⟩
  · have e1 : (decide ((1 : Int) ≤ (ls.length : Int)) && decide ((ls.length : Int) ≤ 10)) = false := by
      rw [Bool.eq_false_iff]; intro h; rw [Bool.and_eq_true, decide_eq_true_iff, decide_eq_true_iff] at h; omega
    have HR := nog (fun h => And.intro h.low h.high) h1
    rw [e1] at CI
    have HCI := Lib.hid CI
    clear CI e1 h1 nog CA hat
    go_enter Tryz.func102, Tryz.ntmps102
    go_wp2_with fail
    rw [← HWA.out]
    refine HCI.out.mono ?_
    rintro e w1 ⟨rfl, rfl⟩
    go_wp2_with fail
    go_ret
    exact ⟨ret_bool HR.out.symm, HA.out⟩
end Go.Proofs.YtgolhfmmlanmlaaGreatDoor

/- Walks: whether a graph is good, as the program has it. -/
namespace Go.Proofs.YtgolhfmmlanmlaaGreatDoor
open Go.RowKit Pth

/-- Yes-or-no as cells. -/
def Bo (l : List Bool) : List Value := l.map fun x => .bool x
theorem Bo_len (l : List Bool) : (Bo l).length = l.length := by simp [Bo]
theorem Bo_get {l : List Bool} {k : Nat} (hk : k < l.length) : (Bo l)[k]'(by rw [Bo_len]; exact hk) = .bool l[k] := by simp [Bo]
theorem Bo_get? {l : List Bool} {k : Nat} (hk : k < l.length) : (Bo l)[k]? = some (.bool l[k]) := by simp [Bo, hk]
theorem Bo_set (l : List Bool) (k : Nat) (b : Bool) : (Bo l).set k (.bool b) = Bo (l.set k b) := by simp [Bo, List.map_set]
theorem Bo_rep (n : Nat) (b : Bool) : Bo (List.replicate n b) = List.replicate n (.bool b) := by simp [Bo]
theorem RowV.bools {w : World} {v : Value} {l : List Bool} (h : RowV w v (Bo l)) :
    ∃ a c, v = .slice a l.length c ∧ l.length ≤ c ∧ c ≤ maxLen ∧ ∀ k (hk : k < l.length), ∃ g o, a = some ⟨g, o, none⟩ ∧ g < w.heap.size ∧ w.cell? ⟨g, o + k, none⟩ = some (.bool l[k]) := by
  obtain ⟨a, c, hv, h1, h2, hat⟩ := h
  refine ⟨a, c, by rw [hv, Bo_len], by rw [Bo_len] at h1; exact h1, h2, fun k hk => ?_⟩
  obtain ⟨g, o, ha, hg, hc⟩ := hat k (by rw [Bo_len]; exact hk)
  exact ⟨g, o, ha, hg, by rw [hc]; simp [Bo]⟩

theorem RowV.marks {w : World} {v : Value} {n : Nat} {pre : List Int} (h : RowV w v (Bo (marksIn n pre))) :
    ∃ a c, v = .slice a n c ∧ n ≤ c ∧ c ≤ maxLen ∧ ∀ k (_ : k < n), ∃ g o, a = some ⟨g, o, none⟩ ∧ g < w.heap.size ∧ w.cell? ⟨g, o + k, none⟩ = some (.bool (decide ((k : Int) ∈ pre))) := by
  obtain ⟨a, c, hv, h1, h2, hat⟩ := h.bools
  have hl := marksIn_len n pre
  refine ⟨a, c, by rw [hv, hl], by omega, h2, fun k hk => ?_⟩
  obtain ⟨g, o, ha, hg, hc⟩ := hat k (by omega)
  exact ⟨g, o, ha, hg, by rw [hc, marksIn_at]⟩

set_option maxRecDepth 20000 in
set_option maxHeartbeats 2000000 in
theorem areNeeds_any (l pre : List Int) (n : Nat) (v u : Value) (w : World) (hrow : RowV w v (I l)) (hpl : RowV w u (Bo (marksIn n pre))) (hpre : ∀ x ∈ pre, 0 ≤ x ∧ x < n) :
    Calls Tryz.prog 136 #[v, u] w fun e w' => e = .returned (.bool (needsB l pre)) ∧ w = w' := by
  obtain ⟨a, cap, rfl, hc1, hc2, hat⟩ := hrow.ints
  obtain ⟨a2, cap2, rfl, hd1, hd2, hat2⟩ := hpl.marks
  clear hrow hpl
  unfold maxLen at hc2 hd2
  go_enter Tryz.func136, Tryz.ntmps136
  go_wp2_with fail
  go_loop [9] (fun i => ∃ k : Nat, k ≤ l.length ∧ i = .int .i64 k ∧ Hid (Rise (l.take k) ∧ ∀ x ∈ l.take k, x ∈ pre)) (fun i => l.length - (intOf i).toNat)
  case atStart => exact ⟨0, Nat.zero_le _, rfl, by simp [Hid, Rise]⟩
  case round =>
    obtain ⟨k, hk, rfl, HO⟩ := hrel
    by_cases hlt : k < l.length
    · obtain ⟨g, o, rfl, hg, hcell⟩ := hat k hlt
      by_cases hx : l[k] ∈ pre
      · obtain ⟨hx0, hxn⟩ := hpre _ hx
        obtain ⟨g2, o2, rfl, hg2, hcell2⟩ := hat2 l[k].toNat (by omega)
        rw [show ((l[k].toNat : Nat) : Int) = l[k] by omega, decide_eq_true hx] at hcell2
        by_cases h0 : 0 < k
        · obtain ⟨g', o', hA, _, hcell1⟩ := hat (k - 1) (by omega)
          obtain ⟨rfl, rfl⟩ := addr_inj hA
          have hk0 : decide ((k : Int) > 0) = true := by simp; omega
          by_cases hy : l[k - 1] < l[k]
          · have HR := Lib.hid (needs_next hlt HO.out hx (fun _ => hy))
            have hy1 : decide (l[k - 1] ≥ l[k]) = false := by simp; omega
            clear hat hat2 HO hx hpre hA
            generalize l[k] = x at *
            generalize l[k - 1] = y at *
            go_wp2_with fail
            go_round
            case rel => exact ⟨k + 1, by omega, by go_num, HR⟩
            case measure => simp [intOf]; omega
          · have HR : Hid (needsB l pre = false) := needs_fall hlt h0 (by omega)
            have hy1 : decide (l[k - 1] ≥ l[k]) = true := by simp; omega
            clear hat hat2 HO hx hpre hA
            generalize l[k] = x at *
            generalize l[k - 1] = y at *
            go_wp2_with fail
            go_ret
            exact ⟨ret_bool HR.out.symm, rfl⟩
        · have HR := Lib.hid (needs_next hlt HO.out hx (fun h => absurd h h0))
          have hk0 : decide ((k : Int) > 0) = false := by simp; omega
          clear hat hat2 HO hx hpre
          generalize l[k] = x at *
          go_wp2_with fail
          go_round
          case rel => exact ⟨k + 1, by omega, by go_num, HR⟩
          case measure => simp [intOf]; omega
      · have HR : Hid (needsB l pre = false) := needs_not hlt hx
        by_cases hx0 : l[k] < 0
        · clear hat hat2 HO hx hpre
          generalize l[k] = x at *
          go_wp2_with fail
          go_ret
          exact ⟨ret_bool HR.out.symm, rfl⟩
        · by_cases hxn : l[k] < n
          · obtain ⟨g2, o2, rfl, hg2, hcell2⟩ := hat2 l[k].toNat (by omega)
            rw [show ((l[k].toNat : Nat) : Int) = l[k] by omega, decide_eq_false hx] at hcell2
            clear hat hat2 HO hx hpre
            generalize l[k] = x at *
            go_wp2_with fail
            go_ret
            exact ⟨ret_bool HR.out.symm, rfl⟩
          · clear hat hat2 HO hx hpre
            generalize l[k] = x at *
            go_wp2_with fail
            go_ret
            exact ⟨ret_bool HR.out.symm, rfl⟩
    · have HR : Hid (needsB l pre = true) := by have := HO.out; rw [List.take_of_length_le (by omega)] at this; exact needsB_iff.2 this
      clear HO hat hat2 hpre
      go_wp2_with fail
      go_ret
      exact ⟨ret_bool HR.out.symm, rfl⟩

set_option maxHeartbeats 1000000 in
theorem isTask_any (ls : List (List Int)) (l : List Int) (k : Int) (v : Value) (w : World) (hst : GraphV w v ls l) :
    Calls Tryz.prog 135 #[v, .int .i64 k] w fun e w' => e = .returned (.bool (decide (0 ≤ k) && decide (k < (ls.length : Int)))) ∧ Below w.heap.size w w' := by
  obtain ⟨nv, ov, rfl, h1, h2⟩ := hst
  obtain ⟨an, cn, rfl, hn1, hn2, _⟩ := h1.lists
  obtain ⟨ao, co, rfl, ho1, ho2, _⟩ := h2.ints
  clear h1 h2
  unfold maxLen at hn2 ho2
  go_enter Tryz.func135, Tryz.ntmps135
  go_wp2_with fail
  all_goals
    go_ret
    exact ⟨ret_bool (by rw [Bool.eq_iff_iff]; simp <;> omega), (Below.refl w.heap.size w).alloc (Nat.le_refl _) _⟩

/-- What the program asks of the one at a place. -/
def SpotOk (ls : List (List Int)) (l : List Int) (i : Nat) (hi : i < l.length) : Prop := ∃ t : Nat, ∃ ht : t < ls.length, l[i] = (t : Int) ∧ l[i] ∉ l.take i ∧ Rise ls[t] ∧ ∀ x ∈ ls[t], x ∈ l.take i
theorem spot_range {ls : List (List Int)} {l : List Int} {k : Nat} (h : ∀ i (hi : i < l.length), i < k → SpotOk ls l i hi) : ∀ x ∈ l.take k, 0 ≤ x ∧ x < (ls.length : Int) := by
  intro x hx
  obtain ⟨i, hi, rfl⟩ := List.mem_iff_getElem.1 hx
  rw [List.length_take] at hi
  obtain ⟨t, ht, he, _⟩ := h i (by omega) (by omega)
  rw [List.getElem_take]
  omega
theorem isTask_b {ls : List (List Int)} {l : List Int} {k : Int} {v : Value} {w : World} {b : Bool} (hst : GraphV w v ls l) (h : (decide (0 ≤ k) && decide (k < (ls.length : Int))) = b) :
    Calls Tryz.prog 135 #[v, .int .i64 k] w fun e w' => e = .returned (.bool b) ∧ Below w.heap.size w w' := by
  subst h
  exact isTask_any ls l k v w hst
theorem take_snoc {l : List Int} {k : Nat} (hk : k < l.length) : l.take k ++ [l[k]] = l.take (k + 1) := (List.take_succ_eq_append_getElem hk).symm

set_option maxRecDepth 20000 in
set_option maxHeartbeats 4000000 in
theorem implGood_any (ls : List (List Int)) (l : List Int) (v : Value) (w : World) (hst : GraphV w v ls l) :
    Calls Tryz.prog 108 #[v] w fun e w' => e = .returned (.bool (goodG ls l)) ∧ Below w.heap.size w w' := by
  have HV := Lib.hid hst
  obtain ⟨nv, ov, rfl, h1, h2⟩ := hst
  obtain ⟨an, cn, rfl, hn1, hn2, hat⟩ := h1.lists
  obtain ⟨ao, co, rfl, ho1, ho2, hao⟩ := h2.ints
  clear h1 h2
  unfold maxLen at hn2 ho2
  have nog : ∀ {P : Prop}, (GoodP ls l → P) → ¬ P → Hid (goodG ls l = false) := fun h1 h2 => goodG_noP (fun h => h2 (h1 h))
  obtain ⟨wa, hwa⟩ : ∃ wa, wa = w.alloc (.cells #[.slice an ls.length cn, .slice ao l.length co] 39) := ⟨_, rfl⟩
  have c0 : wa.cell? ⟨w.heap.size, 0, none⟩ = some (.slice an ls.length cn) := by rw [hwa]; simp
  have c1 : wa.cell? ⟨w.heap.size, 1, none⟩ = some (.slice ao l.length co) := by rw [hwa]; simp
  have HA : Hid (Below w.heap.size w wa) := by rw [hwa]; exact (Below.refl w.heap.size w).alloc (Nat.le_refl _) _
  have hsz : w.heap.size < wa.heap.size := by rw [hwa]; simp
  have HWA := Lib.hid hwa
  by_cases h1 : 1 ≤ ls.length ∧ ls.length ≤ 10
  · by_cases h2 : l.length = ls.length
    · have e2 : ((l.length : Int) != (ls.length : Int)) = false := by simp [h2]
      have HL := Lib.hid h2
      obtain ⟨h1a, h1b⟩ := h1
      obtain ⟨w0, hmk, hown0, hb0⟩ := make_row elemB rfl ls.length wa (by omega)
      have HN0 := Lib.hid hown0
      have HB0 := Lib.hid hb0
      rw [hwa] at hmk
      have hwz : wa.heap.size = w.heap.size + 1 := by rw [hwa]; simp
      rw [hwz] at HN0
      have d0 := (HB0.out.cell (p := ⟨w.heap.size, 0, none⟩) hsz).trans c0
      have d1 := (HB0.out.cell (p := ⟨w.heap.size, 1, none⟩) hsz).trans c1
      clear hown0 hb0 h2 hwa
      go_enter Tryz.func108, Tryz.ntmps108
      go_wp2_with fail
      clear hmk e2 d0 d1
      go_loopw [28] (fun i wr => ∃ k : Nat, k ≤ l.length ∧ i = .int .i64 k ∧ Hid (∀ i (hi : i < l.length), i < k → SpotOk ls l i hi) ∧ wr.ownsRow (w.heap.size + 1) 4 1 (.slice (some ⟨w.heap.size + 1, 0, none⟩) ls.length ls.length) ls.length (Bo (marksIn ls.length (l.take k))) ∧ Below wa.heap.size wa wr) (fun i _ => l.length - (intOf i).toNat)
      case atStart => exact ⟨0, Nat.zero_le _, rfl, fun i hi h => by omega, by rw [List.take_zero, marksIn_nil, Bo_rep]; exact HN0.out, HB0.out⟩
      case round =>
        clear HN0 HB0
        obtain ⟨k, hk, rfl, HO, hown, hb⟩ := hrel
        have HN := Lib.hid hown
        have HB := Lib.hid hb
        have HBW := Lib.hid (bth HA.out hb (Nat.le_refl _))
        have d0 := (hb.cell (p := ⟨w.heap.size, 0, none⟩) hsz).trans c0
        have d1 := (hb.cell (p := ⟨w.heap.size, 1, none⟩) hsz).trans c1
        have HC0 := Lib.hid c0
        have HC1 := Lib.hid c1
        have hszr := hb.size
        clear hb c0 c1 hown
        by_cases hlt : k < l.length
        · obtain ⟨g, o, rfl, hg, hcell0⟩ := hao k hlt
          have hcell : wr.cell? ⟨g, o + k, none⟩ = some (.int .i64 l[k]) := by rw [HBW.out.cell (p := ⟨g, o + k, none⟩) hg]; exact hcell0
          clear hcell0
          by_cases hr : 0 ≤ l[k] ∧ l[k] < (ls.length : Int)
          · have CT := Lib.hid (isTask_b (HV.out.below HBW.out) (show (decide (0 ≤ l[k]) && decide (l[k] < (ls.length : Int))) = true by simp [hr]))
            obtain ⟨t, ht⟩ : ∃ t : Nat, l[k] = t := ⟨l[k].toNat, by omega⟩
            have htn : t < ls.length := by omega
            have HTL := Lib.hid ht
            have HPRE := Lib.hid (spot_range HO.out)
            have HTS := Lib.hid (take_snoc hlt)
            have HSO : Hid (∀ (h1 : (t : Int) ∉ l.take k) (h2 : Rise ls[t]) (h3 : ∀ x ∈ ls[t], x ∈ l.take k), ∀ i (hi : i < l.length), i < k + 1 → SpotOk ls l i hi) := by
              intro h1 h2 h3 i hi hik
              rcases Nat.lt_or_ge i k with h | h
              · exact HO.out i hi h
              · obtain rfl : i = k := by omega
                exact ⟨t, htn, ht, by rw [ht]; exact h1, h2, h3⟩
            have hnog1 : (t : Int) ∈ l.take k → Hid (goodG ls l = false) := fun hm => nog (fun h => (h.each k hlt)) (fun ⟨t', ht', he, hn, _⟩ => hn (by rw [ht]; exact hm))
            have hnog2 : ¬ (Rise ls[t] ∧ ∀ x ∈ ls[t], x ∈ l.take k) → Hid (goodG ls l = false) := fun hm => nog (fun h => (h.each k hlt)) (fun ⟨t', ht', he, hn, h3, h4⟩ => hm (by
              obtain rfl : t = t' := by omega
              exact ⟨h3, h4⟩))
            rw [ht] at hcell CT HTS
            clear ht nog hao HTL
            go_wp2_with fail
            refine CT.out.mono ?_
            rintro e w1 ⟨rfl, hb1⟩
            have hN1 := own_below HN.out hb1
            have HN1 := Lib.hid hN1
            have HB1 := Lib.hid (bth HB.out hb1 (Nat.le_refl _))
            have HBW1 := Lib.hid (bth HBW.out hb1 (Nat.le_refl _))
            have hcp : w1.cell? ⟨w.heap.size + 1, t, none⟩ = some (.bool (decide ((t : Int) ∈ l.take k))) := by rw [hN1.cellAt t (by omega), Bo_get? (by rw [marksIn_len]; exact htn), marksIn_at]
            have f0 := (hb1.cell (p := ⟨w.heap.size, 0, none⟩) (by show w.heap.size < wr.heap.size; omega)).trans d0
            clear d0 d1 hcell hb1 HN CT HO
            by_cases hm : (t : Int) ∈ l.take k
            · have HR := hnog1 hm
              rw [decide_eq_true hm] at hcp
              clear hnog1 hnog2 hm hat HSO HTS hN1
              go_wp2_with fail
              go_ret
              exact ⟨ret_bool HR.out.symm, HBW1.out⟩
            · obtain ⟨g2, o2, a2, c2, rfl, hg2, hcell2, hrk⟩ := hat t htn
              have hcell3 : w1.cell? ⟨g2, o2 + t, none⟩ = some (.slice a2 ls[t].length c2) := by rw [HBW1.out.cell (p := ⟨g2, o2 + t, none⟩) hg2]; exact hcell2
              have CN := areNeeds_any ls[t] (l.take k) ls.length _ _ w1 (hrk.below HBW1.out) (RowV.of_own hN1) HPRE.out
              rw [decide_eq_false hm] at hcp
              by_cases hq : Rise ls[t] ∧ ∀ x ∈ ls[t], x ∈ l.take k
              · rw [needsB_iff.2 hq] at CN
                have HCN := Lib.hid CN
                have HS1 := Lib.hid (HSO.out hm hq.1 hq.2)
                have hfz := hN1.frozenAt t
                have hst := hN1.stored t (.bool true)
                rw [Bo_set, marksIn_set, HTS.out] at hst
                have HN2 := Lib.hid hst.1
                have HB2 := Lib.hid (HB1.out.trans (only_below hst.2 (by omega) (by have := HB1.out.size; omega)))
                clear hnog1 hnog2 hm hat HSO HTS hN1 CN hcell2 hrk hst hq HN1
                generalize ls[t].length = n2 at *
                go_wp2_with fail
                refine HCN.out.mono ?_
                rintro e w' ⟨rfl, rfl⟩
                go_wp2_with fail
                go_roundw
                case rel => exact ⟨k + 1, by omega, by go_num, HS1, HN2.out, HB2.out⟩
                case measure => simp [intOf]; omega
              · rw [needsB_no hq] at CN
                have HCN := Lib.hid CN
                have HR := hnog2 hq
                clear hnog1 hnog2 hm hat HSO HTS hN1 CN hcell2 hrk hq HN1
                generalize ls[t].length = n2 at *
                go_wp2_with fail
                refine HCN.out.mono ?_
                rintro e w' ⟨rfl, rfl⟩
                go_wp2_with fail
                go_ret
                exact ⟨ret_bool HR.out.symm, HBW1.out⟩
          · have CT := Lib.hid (isTask_b (HV.out.below HBW.out) (show (decide (0 ≤ l[k]) && decide (l[k] < (ls.length : Int))) = false by rw [Bool.eq_false_iff]; intro h; rw [Bool.and_eq_true, decide_eq_true_iff, decide_eq_true_iff] at h; exact hr h))
            have HR := nog (fun h => h.each k hlt) (fun ⟨t, ht, he, _⟩ => hr (by omega))
            clear nog hao hat HO hr HN
            generalize l[k] = x at *
            go_wp2_with fail
            refine CT.out.mono ?_
            rintro e w1 ⟨rfl, hb1⟩
            have HB1 := Lib.hid (bth HBW.out hb1 (Nat.le_refl _))
            clear hb1
            go_wp2_with fail
            go_ret
            exact ⟨ret_bool HR.out.symm, HB1.out⟩
        · have HR : Hid (goodG ls l = true) := goodG_iff.2 (GoodP.toG ⟨h1a, h1b, HL.out, fun i hi => HO.out i hi (by omega)⟩)
          clear HO hat hao nog HN
          go_wp2_with fail
          go_ret
          exact ⟨ret_bool HR.out.symm, HBW.out⟩
    · have e2 : ((l.length : Int) != (ls.length : Int)) = true := by simp; omega
      have HR := nog (fun h => h.same) h2
      obtain ⟨h1a, h1b⟩ := h1
      clear h2 nog hat hao c0 c1 hwa hsz
      go_enter Tryz.func108, Tryz.ntmps108
      go_wp2_with fail
      rw [← HWA.out]
      go_ret
      exact ⟨ret_bool HR.out.symm, HA.out⟩
  · have HR := nog (fun h => And.intro h.low h.high) h1
    clear nog hat hao c0 c1 hwa hsz
    by_cases h3 : ls.length < 1
    · go_enter Tryz.func108, Tryz.ntmps108
      go_wp2_with fail
      rw [← HWA.out]
      go_ret
      exact ⟨ret_bool HR.out.symm, HA.out⟩
    · have h4 : 10 < ls.length := by omega
      clear h1
      go_enter Tryz.func108, Tryz.ntmps108
      go_wp2_with fail
      rw [← HWA.out]
      go_ret
      exact ⟨ret_bool HR.out.symm, HA.out⟩
end Go.Proofs.YtgolhfmmlanmlaaGreatDoor

/- Walks: whether a plan is good, of the reference and of the program. -/
namespace Go.Proofs.YtgolhfmmlanmlaaGreatDoor
open Go.RowKit Pth

/-- One task of a plan is as it should be. -/
def planP (ls : List (List Int)) (bs : List Bool) (rs : List (List OpT)) (k : Nat) : Bool :=
  goodR (rs.getD k []) ((ls.getD k []).length : Int) && !(bs.getD k false && decide (0 < (rs.getD k []).length + (ls.getD k []).length))
noncomputable def planA (ls : List (List Int)) (l : List Int) (bs : List Bool) (rs : List (List OpT)) : Bool :=
  goodG ls l && (decide (bs.length = ls.length) && (decide (rs.length = ls.length) && (List.range ls.length).all (planP ls bs rs)))
theorem getD_at {α : Type} {l : List α} {k : Nat} (d : α) (h : k < l.length) : l.getD k d = l[k] := by
  rw [List.getD_eq_getElem?_getD, List.getElem?_eq_getElem h]; rfl
theorem planP_at {ls : List (List Int)} {bs : List Bool} {rs : List (List OpT)} {k : Nat} (h1 : k < ls.length) (h2 : k < bs.length) (h3 : k < rs.length) :
    planP ls bs rs k = (goodR rs[k] (ls[k].length : Int) && !(bs[k] && decide (0 < rs[k].length + ls[k].length))) := by
  unfold planP; rw [getD_at _ h1, getD_at _ h2, getD_at _ h3]
theorem plan_noG {ls : List (List Int)} {l : List Int} {bs : List Bool} {rs : List (List OpT)} (h : goodG ls l = false) : planA ls l bs rs = false := by unfold planA; rw [h]; rfl
theorem plan_noB {ls : List (List Int)} {l : List Int} {bs : List Bool} {rs : List (List OpT)} (h : bs.length ≠ ls.length) : planA ls l bs rs = false := by
  unfold planA; rw [decide_eq_false h]; simp
theorem plan_noR {ls : List (List Int)} {l : List Int} {bs : List Bool} {rs : List (List OpT)} (h : rs.length ≠ ls.length) : planA ls l bs rs = false := by
  unfold planA; rw [decide_eq_false h]; simp
theorem plan_bad {ls : List (List Int)} {l : List Int} {bs : List Bool} {rs : List (List OpT)} {k : Nat} (hk : k < ls.length) (h : planP ls bs rs k = false) : planA ls l bs rs = false := by
  have : (List.range ls.length).all (planP ls bs rs) = false := List.all_eq_false.2 ⟨k, by simpa using hk, by simp [h]⟩
  unfold planA; rw [this]; simp
theorem plan_end {ls : List (List Int)} {l : List Int} {bs : List Bool} {rs : List (List OpT)} {k : Nat} (hk : ls.length ≤ k) (hg : goodG ls l = true) (h1 : bs.length = ls.length) (h2 : rs.length = ls.length) (h : ∀ j, j < k → planP ls bs rs j = true) : planA ls l bs rs = true := by
  have : (List.range ls.length).all (planP ls bs rs) = true := List.all_eq_true.2 (fun j hj => h j (by simp at hj; omega))
  unfold planA; rw [hg, decide_eq_true h1, decide_eq_true h2, this]; rfl
theorem plan_next {ls : List (List Int)} {bs : List Bool} {rs : List (List OpT)} {k : Nat} (h : ∀ j, j < k → planP ls bs rs j = true) (hp : planP ls bs rs k = true) : ∀ j, j < k + 1 → planP ls bs rs j = true := by
  intro j hj
  by_cases e : j = k
  · rw [e]; exact hp
  · exact h j (by omega)
theorem plan_parts {ls : List (List Int)} {l : List Int} {bs : List Bool} {rs : List (List OpT)} (h : planA ls l bs rs = true) : GoodG ls l ∧ bs.length = ls.length ∧ rs.length = ls.length ∧ ∀ k, k < ls.length → planP ls bs rs k = true := by
  unfold planA at h
  simp only [Bool.and_eq_true, decide_eq_true_eq, List.all_eq_true, List.mem_range] at h
  exact ⟨goodG_iff.1 h.1, h.2.1, h.2.2.1, h.2.2.2⟩

theorem implGood_bR {r : List OpT} {ins : Int} {b : Bool} (h : goodR r ins = b) (v : Value) (w : World) (hrow : RowO w v r) : Calls Tryz.prog 109 #[v, .int .i64 ins] w (BoolPost b w) := by
  have := implGoodR_any r ins v w hrow; rwa [h] at this

set_option maxRecDepth 20000 in
set_option maxHeartbeats 8000000 in
theorem specPlan_any (ls : List (List Int)) (l : List Int) (bs : List Bool) (rs : List (List OpT)) (v : Value) (w : World) (hp : PlanV w v ls l bs rs) (hx : ∀ l ∈ rs, ∀ f ∈ l, f.2.2.length ≤ maxLen) :
    Calls Tryz.prog 72 #[v] w (BoolPost (planA ls l bs rs) w) := by
  obtain ⟨nv, ov, sv, rv, rfl, h1, h2, h3, h4⟩ := hp
  have H1 := Lib.hid h1
  have H2 := Lib.hid h2
  obtain ⟨as0, cs, rfl, hs1, hs2, hats⟩ := h3.boolsW
  obtain ⟨an, cn, rfl, hn1, hn2, hatn⟩ := h1.lists
  obtain ⟨ao, co, rfl, ho1, ho2, _⟩ := h2.ints
  obtain ⟨ar, cr, rfl, hr1, hr2, hatr⟩ := h4.lists
  clear h1 h2 h3 h4
  unfold maxLen at hs2 hn2 ho2 hr2
  obtain ⟨wa, hwa⟩ : ∃ wa, wa = w.alloc (.cells #[.slice an ls.length cn, .slice ao l.length co, .slice as0 bs.length cs, .slice ar rs.length cr] 42) := ⟨_, rfl⟩
  have hsz : w.heap.size < wa.heap.size := by rw [hwa]; simp
  have P0 : Hid (Blk4 wa w.heap.size 42 (.slice an ls.length cn) (.slice ao l.length co) (.slice as0 bs.length cs) (.slice ar rs.length cr)) := by rw [hwa]; exact Blk4.new
  have HA : Hid (Below w.heap.size w wa) := by rw [hwa]; exact (Below.refl w.heap.size w).alloc (Nat.le_refl _) _
  have HC := Lib.hid (specGood_any ls l (.agg #[.slice an ls.length cn, .slice ao l.length co]) wa ⟨_, _, rfl, H1.out.below HA.out, H2.out.below HA.out⟩)
  have HWA := Lib.hid hwa
  have HATS := Lib.hid hats
  have HATN := Lib.hid hatn
  have HATR := Lib.hid hatr
  have HX := Lib.hid hx
  obtain ⟨c0, c1, c2, c3⟩ := P0.out.cells
  clear hwa hats hatn hatr hx
  rcases hg : goodG ls l with _ | _
  · have HT : Hid (planA ls l bs rs = false) := plan_noG hg
    rw [hg] at HC
    clear hg
    go_enter Tryz.func72, Tryz.ntmps72
    go_wp2_with fail
    rw [← HWA.out]
    refine HC.out.mono ?_
    rintro e w1 ⟨rfl, hb1⟩
    have HB1 := Lib.hid (bth HA.out hb1 (Nat.le_refl _))
    clear hb1 c0 c1 c2 c3
    go_wp2_with fail
    go_ret
    exact ⟨ret_bool HT.out.symm, HB1.out⟩
  rw [hg] at HC
  by_cases hb : bs.length = ls.length
  · have eb : ((bs.length : Int) != (ls.length : Int)) = false := by simp [hb]
    by_cases hr : rs.length = ls.length
    · have er : ((rs.length : Int) != (ls.length : Int)) = false := by simp [hr]
      have HGG := Lib.hid hg
      have HBL := Lib.hid hb
      have HRL := Lib.hid hr
      have hgg := goodG_iff.1 hg
      have HLL : Hid (∀ k (hk : k < ls.length), ls[k].length ≤ 10) := fun k hk => by
        have hw := (hgg.each k hk).1
        have := rise_len hw.1 hw.2 (by have := hgg.low; omega)
        have := hgg.high
        omega
      have hhigh := hgg.high
      clear hg hgg hb hr
      go_enter Tryz.func72, Tryz.ntmps72
      go_wp2_with fail
      rw [← HWA.out]
      refine HC.out.mono ?_
      rintro e w1 ⟨rfl, hb1⟩
      have HB1 := Lib.hid hb1
      clear hb1 c0 c1 c2 c3 HC
      obtain ⟨c0, c1, c2, c3⟩ := (P0.out.below HB1.out hsz).cells
      go_wp2_with fail
      clear c0 c1 c2 c3
      go_loopw [31] (fun i wr => ∃ k : Nat, k ≤ ls.length ∧ i = .int .i64 k ∧ Hid (Below wa.heap.size wa wr) ∧ Hid (∀ j, j < k → planP ls bs rs j = true)) (fun i _ => ls.length - (intOf i).toNat)
      case atStart => exact ⟨0, Nat.zero_le _, rfl, HB1.out, fun j hj => by omega⟩
      case round =>
        clear HB1
        obtain ⟨k, hk, rfl, HB, HO⟩ := hrel
        have HBW := Lib.hid (bth HA.out HB.out (Nat.le_refl _))
        by_cases hlt : k < ls.length
        · have hkb : k < bs.length := by have := HBL.out; omega
          have hkr : k < rs.length := by have := HRL.out; omega
          obtain ⟨gn, on, an2, cn2, rfl, hgn, hcn, hrn⟩ := HATN.out k hlt
          obtain ⟨gb, ob, rfl, hgb, hcb⟩ := HATS.out k hkb
          obtain ⟨gr, or', ar2, cr2, rfl, hgr, hcr, hrr⟩ := HATR.out k hkr
          obtain ⟨_, _, hev, hcl, hcm, _⟩ := hrr.ops
          injection hev with hea _ hec
          subst hea hec
          obtain ⟨nr, hnr⟩ : ∃ n, rs[k].length = n := ⟨_, rfl⟩
          obtain ⟨nl, hnl⟩ : ∃ n, ls[k].length = n := ⟨_, rfl⟩
          obtain ⟨s, hs⟩ : ∃ s, bs[k] = s := ⟨_, rfl⟩
          have hrl : nr ≤ maxLen := by omega
          unfold maxLen at hrl
          have hl10 : nl ≤ 10 := by have := HLL.out k hlt; omega
          rw [hnl] at hcn
          rw [hnr] at hcr hrr
          rw [hs] at hcb
          have HNC : Hid (∀ W, Below w.heap.size w W → W.cell? ⟨gn, on + k, none⟩ = some (.slice an2 nl cn2)) := fun W h => (h.cell (p := ⟨gn, on + k, none⟩) hgn).trans hcn
          have HBC : Hid (∀ W, Below w.heap.size w W → W.cell? ⟨gb, ob + k, none⟩ = some (.bool s)) := fun W h => (h.cell (p := ⟨gb, ob + k, none⟩) hgb).trans hcb
          have HRC : Hid (∀ W, Below w.heap.size w W → W.cell? ⟨gr, or' + k, none⟩ = some (.slice ar2 nr cr2)) := fun W h => (h.cell (p := ⟨gr, or' + k, none⟩) hgr).trans hcr
          obtain ⟨b1, hb1⟩ : ∃ b, goodR rs[k] (nl : Int) = b := ⟨_, rfl⟩
          have HCR : Hid (∀ W, Below w.heap.size w W → Calls Tryz.prog 103 #[.slice ar2 nr cr2, .int .i64 (nl : Int)] W (BoolPost b1 W)) := fun W h => specGood_b hb1 _ W (hrr.below h) (fun f hf => HX.out _ (List.getElem_mem hkr) f hf)
          have H8 : Hid (b1 = true → nr ≤ 8) := fun h => by rw [h] at hb1; have := (goodR_iff.1 hb1).2.2.1; omega
          have hPP : planP ls bs rs k = (b1 && !(s && decide (0 < nr + nl))) := by rw [planP_at hlt hkb hkr, hnl, hb1, hnr, hs]
          have hs1 := HNC.out wr HBW.out
          have hs2 := HBC.out wr HBW.out
          have hs3 := HRC.out wr HBW.out
          have hki : (k : Int) < (bs.length : Int) := by omega
          have hkj : (k : Int) < (rs.length : Int) := by omega
          obtain ⟨c0, c1, c2, c3⟩ := (P0.out.below HB.out hsz).cells
          clear hcn hcb hcr hrn hrr hb1 HATN HATS HATR HX H1 H2 hnr hnl hs hcl hcm
          by_cases hz : 0 < nr + nl
          · rw [decide_eq_true hz] at hPP
            have HS : Hid (if b1 && !s then (∀ j, j < k + 1 → planP ls bs rs j = true) else planA ls l bs rs = false) := by
              unfold Hid
              split
              · rename_i h; exact plan_next HO.out (by rw [hPP, Bool.and_true]; exact h)
              · rename_i h; exact plan_bad hlt (by rw [hPP, Bool.and_true]; simpa using h)
            clear hPP HO
            rcases b1 with _ | _
            · go_wp2_with fail
              refine (HCR.out wr HBW.out).mono ?_
              rintro e w2 ⟨rfl, hb2⟩
              have HB2 := Lib.hid (bth HB.out hb2 (Nat.le_refl _))
              have HBW2 := Lib.hid (bth HA.out HB2.out (Nat.le_refl _))
              clear hb2 c0 c1 c2 c3 hs1 hs2 hs3
              obtain ⟨c0, c1, c2, c3⟩ := (P0.out.below HB2.out hsz).cells
              have hs1 := HNC.out w2 HBW2.out
              have hs2 := HBC.out w2 HBW2.out
              have hs3 := HRC.out w2 HBW2.out
              go_wp2_with fail
              go_ret
              exact ⟨ret_bool (by have := HS.out; simp at this; simp [this]), HBW2.out⟩
            · go_wp2_with fail
              refine (HCR.out wr HBW.out).mono ?_
              rintro e w2 ⟨rfl, hb2⟩
              have HB2 := Lib.hid (bth HB.out hb2 (Nat.le_refl _))
              have HBW2 := Lib.hid (bth HA.out HB2.out (Nat.le_refl _))
              clear hb2 c0 c1 c2 c3 hs1 hs2 hs3
              obtain ⟨c0, c1, c2, c3⟩ := (P0.out.below HB2.out hsz).cells
              have hs1 := HNC.out w2 HBW2.out
              have hs2 := HBC.out w2 HBW2.out
              have hs3 := HRC.out w2 HBW2.out
              rcases s with _ | _
              · go_wp2_with fail
                all_goals
                  go_roundw
                  case rel => exact ⟨k + 1, by omega, by go_num, HB2, by have := HS.out; simpa [Hid] using this⟩
                  case measure => simp [intOf]; omega
              · have hd : (0 : Int) < (nr : Int) + (nl : Int) := by omega
                have h8 : nr ≤ 8 := by simpa using H8.out
                have hwr : IntKind.i64.wrap ((nr : Int) + (nl : Int)) = (nr : Int) + (nl : Int) := by rw [IntKind.wrap_i64]; omega
                go_wp2_with fail
                go_ret
                exact ⟨ret_bool (by have := HS.out; simp at this; simp [this]), HBW2.out⟩
          · rw [decide_eq_false hz] at hPP
            have HS : Hid (if b1 then (∀ j, j < k + 1 → planP ls bs rs j = true) else planA ls l bs rs = false) := by
              unfold Hid
              split
              · rename_i h; exact plan_next HO.out (by rw [hPP, Bool.and_false, h]; rfl)
              · rename_i h; exact plan_bad hlt (by rw [hPP, Bool.and_false]; simpa using h)
            clear hPP HO
            obtain rfl : nr = 0 := by omega
            obtain rfl : nl = 0 := by omega
            clear hz
            rcases b1 with _ | _
            · go_wp2_with fail
              refine (HCR.out wr HBW.out).mono ?_
              rintro e w2 ⟨rfl, hb2⟩
              have HB2 := Lib.hid (bth HB.out hb2 (Nat.le_refl _))
              have HBW2 := Lib.hid (bth HA.out HB2.out (Nat.le_refl _))
              clear hb2 c0 c1 c2 c3 hs1 hs2 hs3
              obtain ⟨c0, c1, c2, c3⟩ := (P0.out.below HB2.out hsz).cells
              have hs1 := HNC.out w2 HBW2.out
              have hs2 := HBC.out w2 HBW2.out
              have hs3 := HRC.out w2 HBW2.out
              go_wp2_with fail
              go_ret
              exact ⟨ret_bool (by have := HS.out; simp at this; simp [this]), HBW2.out⟩
            · go_wp2_with fail
              refine (HCR.out wr HBW.out).mono ?_
              rintro e w2 ⟨rfl, hb2⟩
              have HB2 := Lib.hid (bth HB.out hb2 (Nat.le_refl _))
              have HBW2 := Lib.hid (bth HA.out HB2.out (Nat.le_refl _))
              clear hb2 c0 c1 c2 c3 hs1 hs2 hs3
              obtain ⟨c0, c1, c2, c3⟩ := (P0.out.below HB2.out hsz).cells
              have hs1 := HNC.out w2 HBW2.out
              have hs2 := HBC.out w2 HBW2.out
              have hs3 := HRC.out w2 HBW2.out
              rcases s with _ | _
              · go_wp2_with fail
                all_goals
                  go_roundw
                  case rel => exact ⟨k + 1, by omega, by go_num, HB2, by have := HS.out; simpa [Hid] using this⟩
                  case measure => simp [intOf]; omega
              · go_wp2_with fail
                all_goals
                  go_roundw
                  case rel => exact ⟨k + 1, by omega, by go_num, HB2, by have := HS.out; simpa [Hid] using this⟩
                  case measure => simp [intOf]; omega
        · have HT : Hid (planA ls l bs rs = true) := plan_end (by omega) HGG.out HBL.out HRL.out HO.out
          have hnk : ¬ (k : Int) < (rs.length : Int) := by have := HRL.out; omega
          clear HO HATN HATS HATR
          go_wp2_with fail
          go_ret
          exact ⟨ret_bool HT.out.symm, HBW.out⟩
    · have er : ((rs.length : Int) != (ls.length : Int)) = true := by simp; omega
      have HT : Hid (planA ls l bs rs = false) := plan_noR hr
      clear hg hb hr
      go_enter Tryz.func72, Tryz.ntmps72
      go_wp2_with fail
      rw [← HWA.out]
      refine HC.out.mono ?_
      rintro e w1 ⟨rfl, hb1⟩
      have HB1 := Lib.hid (bth HA.out hb1 (Nat.le_refl _))
      obtain ⟨d0, d1, d2, d3⟩ := (P0.out.below hb1 hsz).cells
      clear hb1 c0 c1 c2 c3
      go_wp2_with fail
      go_ret
      exact ⟨ret_bool HT.out.symm, HB1.out⟩
  · have eb : ((bs.length : Int) != (ls.length : Int)) = true := by simp; omega
    have HT : Hid (planA ls l bs rs = false) := plan_noB hb
    clear hg hb
    go_enter Tryz.func72, Tryz.ntmps72
    go_wp2_with fail
    rw [← HWA.out]
    refine HC.out.mono ?_
    rintro e w1 ⟨rfl, hb1⟩
    have HB1 := Lib.hid (bth HA.out hb1 (Nat.le_refl _))
    obtain ⟨d0, d1, d2, d3⟩ := (P0.out.below hb1 hsz).cells
    clear hb1 c0 c1 c2 c3
    go_wp2_with fail
    go_ret
    exact ⟨ret_bool HT.out.symm, HB1.out⟩
theorem specPlan_b {ls : List (List Int)} {l : List Int} {bs : List Bool} {rs : List (List OpT)} {b : Bool} (h : planA ls l bs rs = b) (v : Value) (w : World) (hp : PlanV w v ls l bs rs) (hx : ∀ l ∈ rs, ∀ f ∈ l, f.2.2.length ≤ maxLen) : Calls Tryz.prog 72 #[v] w (BoolPost b w) := by
  have := specPlan_any ls l bs rs v w hp hx; rwa [h] at this

end Go.Proofs.YtgolhfmmlanmlaaGreatDoor

/- Walks: whether a plan is good, of the program. -/
namespace Go.Proofs.YtgolhfmmlanmlaaGreatDoor
open Go.RowKit Pth

set_option maxRecDepth 20000 in
set_option maxHeartbeats 8000000 in
theorem implPlan_any (ls : List (List Int)) (l : List Int) (bs : List Bool) (rs : List (List OpT)) (v : Value) (w : World) (hp : PlanV w v ls l bs rs) (hx : ∀ l ∈ rs, ∀ f ∈ l, f.2.2.length ≤ maxLen) :
    Calls Tryz.prog 79 #[v] w (BoolPost (planA ls l bs rs) w) := by
  obtain ⟨nv, ov, sv, rv, rfl, h1, h2, h3, h4⟩ := hp
  have H1 := Lib.hid h1
  have H2 := Lib.hid h2
  obtain ⟨as0, cs, rfl, hs1, hs2, hats⟩ := h3.boolsW
  obtain ⟨an, cn, rfl, hn1, hn2, hatn⟩ := h1.lists
  obtain ⟨ao, co, rfl, ho1, ho2, _⟩ := h2.ints
  obtain ⟨ar, cr, rfl, hr1, hr2, hatr⟩ := h4.lists
  clear h1 h2 h3 h4
  unfold maxLen at hs2 hn2 ho2 hr2
  obtain ⟨wa, hwa⟩ : ∃ wa, wa = w.alloc (.cells #[.slice an ls.length cn, .slice ao l.length co, .slice as0 bs.length cs, .slice ar rs.length cr] 42) := ⟨_, rfl⟩
  have hsz : w.heap.size < wa.heap.size := by rw [hwa]; simp
  have P0 : Hid (Blk4 wa w.heap.size 42 (.slice an ls.length cn) (.slice ao l.length co) (.slice as0 bs.length cs) (.slice ar rs.length cr)) := by rw [hwa]; exact Blk4.new
  have HA : Hid (Below w.heap.size w wa) := by rw [hwa]; exact (Below.refl w.heap.size w).alloc (Nat.le_refl _) _
  have HC := Lib.hid (implGood_any ls l (.agg #[.slice an ls.length cn, .slice ao l.length co]) wa ⟨_, _, rfl, H1.out.below HA.out, H2.out.below HA.out⟩)
  have HWA := Lib.hid hwa
  have HATS := Lib.hid hats
  have HATN := Lib.hid hatn
  have HATR := Lib.hid hatr
  have HX := Lib.hid hx
  obtain ⟨c0, c1, c2, c3⟩ := P0.out.cells
  clear hwa hats hatn hatr hx
  rcases hg : goodG ls l with _ | _
  · have HT : Hid (planA ls l bs rs = false) := plan_noG hg
    rw [hg] at HC
    clear hg
    go_enter Tryz.func79, Tryz.ntmps79
    go_wp2_with fail
    rw [← HWA.out]
    refine HC.out.mono ?_
    rintro e w1 ⟨rfl, hb1⟩
    have HB1 := Lib.hid (bth HA.out hb1 (Nat.le_refl _))
    clear hb1 c0 c1 c2 c3
    go_wp2_with fail
    go_ret
    exact ⟨ret_bool HT.out.symm, HB1.out⟩
  rw [hg] at HC
  by_cases hb : bs.length = ls.length
  · have eb : ((bs.length : Int) != (ls.length : Int)) = false := by simp [hb]
    by_cases hr : rs.length = ls.length
    · have er : ((rs.length : Int) != (ls.length : Int)) = false := by simp [hr]
      have HGG := Lib.hid hg
      have HBL := Lib.hid hb
      have HRL := Lib.hid hr
      have hgg := goodG_iff.1 hg
      have HLL : Hid (∀ k (hk : k < ls.length), ls[k].length ≤ 10) := fun k hk => by
        have hw := (hgg.each k hk).1
        have := rise_len hw.1 hw.2 (by have := hgg.low; omega)
        have := hgg.high
        omega
      have hhigh := hgg.high
      clear hg hgg hb hr
      go_enter Tryz.func79, Tryz.ntmps79
      go_wp2_with fail
      rw [← HWA.out]
      refine HC.out.mono ?_
      rintro e w1 ⟨rfl, hb1⟩
      have HB1 := Lib.hid hb1
      clear hb1 c0 c1 c2 c3 HC
      obtain ⟨c0, c1, c2, c3⟩ := (P0.out.below HB1.out hsz).cells
      go_wp2_with fail
      clear c0 c1 c2 c3
      go_loopw [33] (fun i wr => ∃ k : Nat, k ≤ ls.length ∧ i = .int .i64 k ∧ Hid (Below wa.heap.size wa wr) ∧ Hid (∀ j, j < k → planP ls bs rs j = true)) (fun i _ => ls.length - (intOf i).toNat)
      case atStart => exact ⟨0, Nat.zero_le _, rfl, HB1.out, fun j hj => by omega⟩
      case round =>
        clear HB1
        obtain ⟨k, hk, rfl, HB, HO⟩ := hrel
        have HBW := Lib.hid (bth HA.out HB.out (Nat.le_refl _))
        by_cases hlt : k < ls.length
        · have hkb : k < bs.length := by have := HBL.out; omega
          have hkr : k < rs.length := by have := HRL.out; omega
          obtain ⟨gn, on, an2, cn2, rfl, hgn, hcn, hrn⟩ := HATN.out k hlt
          obtain ⟨gb, ob, rfl, hgb, hcb⟩ := HATS.out k hkb
          obtain ⟨gr, or', ar2, cr2, rfl, hgr, hcr, hrr⟩ := HATR.out k hkr
          obtain ⟨_, _, hev, hcl, hcm, _⟩ := hrr.ops
          injection hev with hea _ hec
          subst hea hec
          obtain ⟨nr, hnr⟩ : ∃ n, rs[k].length = n := ⟨_, rfl⟩
          obtain ⟨nl, hnl⟩ : ∃ n, ls[k].length = n := ⟨_, rfl⟩
          obtain ⟨s, hs⟩ : ∃ s, bs[k] = s := ⟨_, rfl⟩
          have hrl : nr ≤ maxLen := by omega
          unfold maxLen at hrl
          have hl10 : nl ≤ 10 := by have := HLL.out k hlt; omega
          rw [hnl] at hcn
          rw [hnr] at hcr hrr
          rw [hs] at hcb
          have HNC : Hid (∀ W, Below w.heap.size w W → W.cell? ⟨gn, on + k, none⟩ = some (.slice an2 nl cn2)) := fun W h => (h.cell (p := ⟨gn, on + k, none⟩) hgn).trans hcn
          have HBC : Hid (∀ W, Below w.heap.size w W → W.cell? ⟨gb, ob + k, none⟩ = some (.bool s)) := fun W h => (h.cell (p := ⟨gb, ob + k, none⟩) hgb).trans hcb
          have HRC : Hid (∀ W, Below w.heap.size w W → W.cell? ⟨gr, or' + k, none⟩ = some (.slice ar2 nr cr2)) := fun W h => (h.cell (p := ⟨gr, or' + k, none⟩) hgr).trans hcr
          obtain ⟨b1, hb1⟩ : ∃ b, goodR rs[k] (nl : Int) = b := ⟨_, rfl⟩
          have HCR : Hid (∀ W, Below w.heap.size w W → Calls Tryz.prog 109 #[.slice ar2 nr cr2, .int .i64 (nl : Int)] W (BoolPost b1 W)) := fun W h => implGood_bR hb1 _ W (hrr.below h)
          have H8 : Hid (b1 = true → nr ≤ 8) := fun h => by rw [h] at hb1; have := (goodR_iff.1 hb1).2.2.1; omega
          have hPP : planP ls bs rs k = (b1 && !(s && decide (0 < nr + nl))) := by rw [planP_at hlt hkb hkr, hnl, hb1, hnr, hs]
          have hs1 := HNC.out wr HBW.out
          have hs2 := HBC.out wr HBW.out
          have hs3 := HRC.out wr HBW.out
          have hki : (k : Int) < (bs.length : Int) := by omega
          have hkj : (k : Int) < (rs.length : Int) := by omega
          obtain ⟨c0, c1, c2, c3⟩ := (P0.out.below HB.out hsz).cells
          clear hcn hcb hcr hrn hrr hb1 HATN HATS HATR HX H1 H2 hnr hnl hs hcl hcm
          by_cases hz : 0 < nr + nl
          · rw [decide_eq_true hz] at hPP
            have HS : Hid (if b1 && !s then (∀ j, j < k + 1 → planP ls bs rs j = true) else planA ls l bs rs = false) := by
              unfold Hid
              split
              · rename_i h; exact plan_next HO.out (by rw [hPP, Bool.and_true]; exact h)
              · rename_i h; exact plan_bad hlt (by rw [hPP, Bool.and_true]; simpa using h)
            clear hPP HO
            by_cases hn0 : nl = 0
            · subst hn0
              have q2 : ((nr : Int) == 0) = false := by simp; omega
              rcases s with _ | _
              · rcases b1 with _ | _
                · go_wp2_with fail
                  refine (HCR.out wr HBW.out).mono ?_
                  rintro e w2 ⟨rfl, hb2⟩
                  have HB2 := Lib.hid (bth HB.out hb2 (Nat.le_refl _))
                  have HBW2 := Lib.hid (bth HA.out HB2.out (Nat.le_refl _))
                  clear hb2 c0 c1 c2 c3 hs1 hs2 hs3
                  obtain ⟨c0, c1, c2, c3⟩ := (P0.out.below HB2.out hsz).cells
                  have hs1 := HNC.out w2 HBW2.out
                  have hs2 := HBC.out w2 HBW2.out
                  have hs3 := HRC.out w2 HBW2.out
                  go_wp2_with fail
                  go_ret
                  exact ⟨ret_bool (by have := HS.out; simp at this; simp [this]), HBW2.out⟩
                · go_wp2_with fail
                  refine (HCR.out wr HBW.out).mono ?_
                  rintro e w2 ⟨rfl, hb2⟩
                  have HB2 := Lib.hid (bth HB.out hb2 (Nat.le_refl _))
                  have HBW2 := Lib.hid (bth HA.out HB2.out (Nat.le_refl _))
                  clear hb2 c0 c1 c2 c3 hs1 hs2 hs3
                  obtain ⟨c0, c1, c2, c3⟩ := (P0.out.below HB2.out hsz).cells
                  have hs1 := HNC.out w2 HBW2.out
                  have hs2 := HBC.out w2 HBW2.out
                  have hs3 := HRC.out w2 HBW2.out
                  go_wp2_with fail
                  all_goals
                    go_roundw
                    case rel => exact ⟨k + 1, by omega, by go_num, HB2, by have := HS.out; simpa [Hid] using this⟩
                    case measure => simp [intOf]; omega
              · go_wp2_with fail
                go_ret
                exact ⟨ret_bool (by have := HS.out; simp at this; simp [this]), HBW.out⟩
            · have q1 : ((nl : Int) == 0) = false := by simpa using hn0
              rcases s with _ | _
              · rcases b1 with _ | _
                · go_wp2_with fail
                  refine (HCR.out wr HBW.out).mono ?_
                  rintro e w2 ⟨rfl, hb2⟩
                  have HB2 := Lib.hid (bth HB.out hb2 (Nat.le_refl _))
                  have HBW2 := Lib.hid (bth HA.out HB2.out (Nat.le_refl _))
                  clear hb2 c0 c1 c2 c3 hs1 hs2 hs3
                  obtain ⟨c0, c1, c2, c3⟩ := (P0.out.below HB2.out hsz).cells
                  have hs1 := HNC.out w2 HBW2.out
                  have hs2 := HBC.out w2 HBW2.out
                  have hs3 := HRC.out w2 HBW2.out
                  go_wp2_with fail
                  go_ret
                  exact ⟨ret_bool (by have := HS.out; simp at this; simp [this]), HBW2.out⟩
                · go_wp2_with fail
                  refine (HCR.out wr HBW.out).mono ?_
                  rintro e w2 ⟨rfl, hb2⟩
                  have HB2 := Lib.hid (bth HB.out hb2 (Nat.le_refl _))
                  have HBW2 := Lib.hid (bth HA.out HB2.out (Nat.le_refl _))
                  clear hb2 c0 c1 c2 c3 hs1 hs2 hs3
                  obtain ⟨c0, c1, c2, c3⟩ := (P0.out.below HB2.out hsz).cells
                  have hs1 := HNC.out w2 HBW2.out
                  have hs2 := HBC.out w2 HBW2.out
                  have hs3 := HRC.out w2 HBW2.out
                  go_wp2_with fail
                  all_goals
                    go_roundw
                    case rel => exact ⟨k + 1, by omega, by go_num, HB2, by have := HS.out; simpa [Hid] using this⟩
                    case measure => simp [intOf]; omega
              · go_wp2_with fail
                go_ret
                exact ⟨ret_bool (by have := HS.out; simp at this; simp [this]), HBW.out⟩
          · rw [decide_eq_false hz] at hPP
            have HS : Hid (if b1 then (∀ j, j < k + 1 → planP ls bs rs j = true) else planA ls l bs rs = false) := by
              unfold Hid
              split
              · rename_i h; exact plan_next HO.out (by rw [hPP, Bool.and_false, h]; rfl)
              · rename_i h; exact plan_bad hlt (by rw [hPP, Bool.and_false]; simpa using h)
            clear hPP HO
            obtain rfl : nr = 0 := by omega
            obtain rfl : nl = 0 := by omega
            clear hz
            rcases b1 with _ | _
            · rcases s with _ | _
              · go_wp2_with fail
                refine (HCR.out wr HBW.out).mono ?_
                rintro e w2 ⟨rfl, hb2⟩
                have HB2 := Lib.hid (bth HB.out hb2 (Nat.le_refl _))
                have HBW2 := Lib.hid (bth HA.out HB2.out (Nat.le_refl _))
                clear hb2 c0 c1 c2 c3 hs1 hs2 hs3
                obtain ⟨c0, c1, c2, c3⟩ := (P0.out.below HB2.out hsz).cells
                have hs1 := HNC.out w2 HBW2.out
                have hs2 := HBC.out w2 HBW2.out
                have hs3 := HRC.out w2 HBW2.out
                go_wp2_with fail
                go_ret
                exact ⟨ret_bool (by have := HS.out; simp at this; simp [this]), HBW2.out⟩
              · go_wp2_with fail
                refine (HCR.out wr HBW.out).mono ?_
                rintro e w2 ⟨rfl, hb2⟩
                have HB2 := Lib.hid (bth HB.out hb2 (Nat.le_refl _))
                have HBW2 := Lib.hid (bth HA.out HB2.out (Nat.le_refl _))
                clear hb2 c0 c1 c2 c3 hs1 hs2 hs3
                obtain ⟨c0, c1, c2, c3⟩ := (P0.out.below HB2.out hsz).cells
                have hs1 := HNC.out w2 HBW2.out
                have hs2 := HBC.out w2 HBW2.out
                have hs3 := HRC.out w2 HBW2.out
                go_wp2_with fail
                go_ret
                exact ⟨ret_bool (by have := HS.out; simp at this; simp [this]), HBW2.out⟩
            · rcases s with _ | _
              · go_wp2_with fail
                refine (HCR.out wr HBW.out).mono ?_
                rintro e w2 ⟨rfl, hb2⟩
                have HB2 := Lib.hid (bth HB.out hb2 (Nat.le_refl _))
                have HBW2 := Lib.hid (bth HA.out HB2.out (Nat.le_refl _))
                clear hb2 c0 c1 c2 c3 hs1 hs2 hs3
                obtain ⟨c0, c1, c2, c3⟩ := (P0.out.below HB2.out hsz).cells
                have hs1 := HNC.out w2 HBW2.out
                have hs2 := HBC.out w2 HBW2.out
                have hs3 := HRC.out w2 HBW2.out
                go_wp2_with fail
                all_goals
                  go_roundw
                  case rel => exact ⟨k + 1, by omega, by go_num, HB2, by have := HS.out; simpa [Hid] using this⟩
                  case measure => simp [intOf]; omega
              · go_wp2_with fail
                refine (HCR.out wr HBW.out).mono ?_
                rintro e w2 ⟨rfl, hb2⟩
                have HB2 := Lib.hid (bth HB.out hb2 (Nat.le_refl _))
                have HBW2 := Lib.hid (bth HA.out HB2.out (Nat.le_refl _))
                clear hb2 c0 c1 c2 c3 hs1 hs2 hs3
                obtain ⟨c0, c1, c2, c3⟩ := (P0.out.below HB2.out hsz).cells
                have hs1 := HNC.out w2 HBW2.out
                have hs2 := HBC.out w2 HBW2.out
                have hs3 := HRC.out w2 HBW2.out
                go_wp2_with fail
                all_goals
                  go_roundw
                  case rel => exact ⟨k + 1, by omega, by go_num, HB2, by have := HS.out; simpa [Hid] using this⟩
                  case measure => simp [intOf]; omega
        · have HT : Hid (planA ls l bs rs = true) := plan_end (by omega) HGG.out HBL.out HRL.out HO.out
          have hnk : ¬ (k : Int) < (rs.length : Int) := by have := HRL.out; omega
          clear HO HATN HATS HATR
          go_wp2_with fail
          go_ret
          exact ⟨ret_bool HT.out.symm, HBW.out⟩
    · have er : ((rs.length : Int) != (ls.length : Int)) = true := by simp; omega
      have HT : Hid (planA ls l bs rs = false) := plan_noR hr
      clear hg hb hr
      go_enter Tryz.func79, Tryz.ntmps79
      go_wp2_with fail
      rw [← HWA.out]
      refine HC.out.mono ?_
      rintro e w1 ⟨rfl, hb1⟩
      have HB1 := Lib.hid (bth HA.out hb1 (Nat.le_refl _))
      obtain ⟨d0, d1, d2, d3⟩ := (P0.out.below hb1 hsz).cells
      clear hb1 c0 c1 c2 c3
      go_wp2_with fail
      go_ret
      exact ⟨ret_bool HT.out.symm, HB1.out⟩
  · have eb : ((bs.length : Int) != (ls.length : Int)) = true := by simp; omega
    have HT : Hid (planA ls l bs rs = false) := plan_noB hb
    clear hg hb
    go_enter Tryz.func79, Tryz.ntmps79
    go_wp2_with fail
    rw [← HWA.out]
    refine HC.out.mono ?_
    rintro e w1 ⟨rfl, hb1⟩
    have HB1 := Lib.hid (bth HA.out hb1 (Nat.le_refl _))
    obtain ⟨d0, d1, d2, d3⟩ := (P0.out.below hb1 hsz).cells
    clear hb1 c0 c1 c2 c3
    go_wp2_with fail
    go_ret
    exact ⟨ret_bool HT.out.symm, HB1.out⟩
theorem implPlan_b {ls : List (List Int)} {l : List Int} {bs : List Bool} {rs : List (List OpT)} {b : Bool} (h : planA ls l bs rs = b) (v : Value) (w : World) (hp : PlanV w v ls l bs rs) (hx : ∀ l ∈ rs, ∀ f ∈ l, f.2.2.length ≤ maxLen) : Calls Tryz.prog 79 #[v] w (BoolPost b w) := by
  have := implPlan_any ls l bs rs v w hp hx; rwa [h] at this

end Go.Proofs.YtgolhfmmlanmlaaGreatDoor

/- Walks: the laws' helpers on lists of results: how much they hold, copies, whether they are the same. -/
namespace Go.Proofs.YtgolhfmmlanmlaaGreatDoor
open Go.RowKit Pth

def noRes : ResT := ([], 0)
/-- Results are handed back, in memory of the call's own. -/
def ResPost (l : List ResT) (w : World) (e : Ending) (w' : World) : Prop :=
  ∃ v, e = .returned v ∧ w'.ownsRow w.heap.size 75 2 v l.length (RC l) ∧ Below w.heap.size w w'
theorem RC_zero (n : Nat) : RC (List.replicate n noRes) = (madeCells #[.string ByteArray.empty, .int .i64 0] (n * 2)).toList := by
  apply List.ext_getElem?
  intro j
  by_cases hj : j < n * 2
  · have hd : j / 2 < n := by omega
    obtain ⟨q0, q1⟩ := RC_at (l := List.replicate n noRes) (k := j / 2) (by simpa using hd)
    have hm : j % 2 = 0 ∨ j % 2 = 1 := by omega
    rcases hm with h | h
    · rw [show j = j / 2 * 2 by omega, q0]
      simp [madeCells, noRes, hd]; rfl
    · rw [show j = j / 2 * 2 + 1 by omega, q1]
      have e : (j / 2 * 2 + 1) % 2 = 1 := by omega
      have e2 : j / 2 * 2 + 1 < n * 2 := by omega
      simp [madeCells, noRes, e, e2]
  · rw [List.getElem?_eq_none (by rw [RC_len]; simp; omega)]
    simp [madeCells, hj]
theorem make_rowR (n : Nat) (w : World) (hn : n ≤ 2000000) :
    ∃ w', (Instr.makeSlice 35 (.int .i64 (n : Int)) (.int .i64 (n : Int))).run Tryz.prog w = .ok (.slice (some ⟨w.heap.size, 0, none⟩) n n) w' ∧
      w'.ownsRow w.heap.size 75 2 (.slice (some ⟨w.heap.size, 0, none⟩) n n) n (RC (List.replicate n noRes)) ∧ Below w.heap.size w w' := by
  obtain ⟨i0, hi, hz0, hz1, hz2⟩ := info_parts elemR.info
  obtain ⟨w', h1, h2, h3⟩ := run_makeSlice_full (P := Tryz.prog) w w.heap.size _ _ i0 _ 2 elemR.under hi hz0 hz1 .i64 .i64 n (by omega) (by rw [hz2]; exact Nat.le_trans (Nat.mul_le_mul elemR.small hn) (by decide)) (by unfold maxLen; omega) (Nat.le_refl _)
  rw [RC_zero]
  exact ⟨w', h1, h2, (Below.refl _ w).grown h3 (Nat.le_refl _) (fun k hk => by cases hk)⟩
theorem set_two (a : List ResT) (k : Nat) (ha : a.length = k) (p : ResT) (rest : List ResT) (x : ResT) :
    ((RC a ++ RC (p :: rest)).set (k * 2) (.string ⟨x.1.toArray⟩)).set (k * 2 + 1) (.int .i64 x.2) = RC (a ++ [x]) ++ RC rest := by
  have hl : (RC a).length = k * 2 := by rw [RC_len, ha]
  rw [List.set_append_right _ _ (by omega), hl, Nat.sub_self, List.set_append_right _ _ (by omega), hl, show k * 2 + 1 - k * 2 = 1 by omega, RC_append]
  simp [RC, resC]
theorem get_two (a : List ResT) (k : Nat) (ha : a.length = k) (p : ResT) (rest : List ResT) :
    (RC a ++ RC (p :: rest))[k * 2]? = some (.string ⟨p.1.toArray⟩) ∧ (RC a ++ RC (p :: rest))[k * 2 + 1]? = some (.int .i64 p.2) := by
  have hl : (RC a).length = k * 2 := by rw [RC_len, ha]
  rw [List.getElem?_append_right (by omega), hl, Nat.sub_self, List.getElem?_append_right (by omega), hl, show k * 2 + 1 - k * 2 = 1 by omega]
  exact ⟨rfl, rfl⟩

set_option maxRecDepth 20000 in
set_option maxHeartbeats 1000000 in
theorem szResultS_any (l : List ResT) (left : Nat) (v : Value) (w : World) (hrow : RowR w v l) (hx : ∀ f ∈ l, f.1.length ≤ maxLen) (hl : left ≤ 2000000) :
    Calls Tryz.prog 24 #[v, .int .i64 (left : Int)] w fun e w' => ∃ r : Int, e = .returned (.int .i64 r) ∧ r ≤ left ∧ (0 ≤ r → r + l.length ≤ left ∧ ∀ f ∈ l, f.1.length ≤ left) ∧ Below w.heap.size w w' := by
  obtain ⟨a, cap, rfl, hc1, hc2, hat⟩ := hrow.res
  clear hrow
  unfold maxLen at hc2
  by_cases hlen : l.length ≤ left
  · have hlen1 : decide ((left : Int) - (l.length : Int) < 0) = false := by simp; omega
    go_enter Tryz.func24, Tryz.ntmps24
    go_wp2_with fail
    go_loopw [1, 5] (fun q i wr => ∃ (k r : Nat), k ≤ l.length ∧ r + l.length ≤ left ∧ q = .int .i64 r ∧ i = .int .i64 k ∧ Hid (∀ f ∈ l.take k, f.1.length ≤ left) ∧ Hid (Below w.heap.size w wr)) (fun _ i _ => l.length - (intOf i).toNat)
    case atStart => exact ⟨0, left - l.length, Nat.zero_le _, by omega, by go_num, rfl, by simp [Hid], Below.refl _ _⟩
    case round =>
      obtain ⟨k, r, hk, hr1, rfl, rfl, HO, HB⟩ := hrel
      by_cases hlt : k < l.length
      · obtain ⟨g, o, rfl, hg, hcell1, hcell2⟩ := hat k hlt
        have s1 := (HB.out.cell (p := ⟨g, o + k * 2, none⟩) hg).trans hcell1
        have s2 := (HB.out.cell (p := ⟨g, o + k * 2 + 1, none⟩) hg).trans hcell2
        have hxl := hx l[k] (List.getElem_mem hlt)
        have HC := Lib.hid (szResult_any l[k] r wr hxl (by omega))
        have HS : Hid (l[k].1.length ≤ left → ∀ f ∈ l.take (k + 1), f.1.length ≤ left) := by
          intro h1 f hf
          rw [List.take_succ_eq_append_getElem hlt, List.mem_append, List.mem_singleton] at hf
          rcases hf with h | h
          · exact HO.out f h
          · rw [h]; exact h1
        clear hcell1 hcell2 hat HO hx hxl
        generalize l[k] = x at s1 s2 HC HS
        obtain ⟨x1, x2⟩ := x
        unfold resV at HC
        simp only at s1 s2 HC HS
        go_wp2_with fail
        refine HC.out.mono ?_
        rintro e w1 ⟨r1, rfl, hle, hif, hb1⟩
        have HB1 := Lib.hid (HB.out.trans (hb1.mono HB.out.size))
        clear hb1 HC
        by_cases h0 : 0 ≤ r1
        · obtain ⟨r2, rfl⟩ : ∃ r2 : Nat, r1 = r2 := ⟨r1.toNat, by omega⟩
          have hd : decide ((r2 : Int) < 0) = false := decide_eq_false (by omega)
          have HS2 := Lib.hid (HS.out (by have := (hif h0); omega))
          clear HS hif
          go_wp2_with fail
          go_roundw
          case rel => exact ⟨k + 1, r2, by omega, by omega, rfl, by go_num, HS2, HB1⟩
          case measure => simp [intOf]; omega
        · have hd : decide (r1 < 0) = true := decide_eq_true (by omega)
          clear HS hif
          go_wp2_with fail
          go_ret
          exact ⟨-1, rfl, by omega, fun h => by omega, HB1.out⟩
      · have HS : Hid (∀ f ∈ l, f.1.length ≤ left) := by have := HO.out; rw [List.take_of_length_le (by omega)] at this; exact this
        clear hat HO hx
        go_wp2_with fail
        go_ret
        exact ⟨r, rfl, by omega, fun _ => ⟨by omega, HS.out⟩, HB.out⟩
  · have hlen1 : decide ((left : Int) - (l.length : Int) < 0) = true := by simp; omega
    clear hat hx
    go_enter Tryz.func24, Tryz.ntmps24
    go_wp2_with fail
    go_ret
    exact ⟨-1, rfl, by omega, fun h => by omega, Below.refl _ _⟩

set_option maxRecDepth 20000 in
set_option maxHeartbeats 1000000 in
theorem toResultS_any (l : List ResT) (v : Value) (w : World) (hrow : RowR w v l) (hl : l.length ≤ 2000000) :
    Calls Tryz.prog 26 #[v] w (ResPost l w) := by
  obtain ⟨a, cap, rfl, hc1, hc2, hat⟩ := hrow.res
  clear hrow
  unfold maxLen at hc2
  obtain ⟨w0, hmk, hown0, hb0⟩ := make_rowR l.length w hl
  have HN0 := Lib.hid hown0
  have HB0 := Lib.hid hb0
  clear hown0 hb0
  go_enter Tryz.func26, Tryz.ntmps26
  go_wp2_with fail
  clear hmk
  go_loopw [4] (fun i wr => ∃ k : Nat, k ≤ l.length ∧ i = .int .i64 k ∧ Hid (wr.ownsRow w.heap.size 75 2 (.slice (some ⟨w.heap.size, 0, none⟩) l.length l.length) l.length (RC (l.take k) ++ RC (List.replicate (l.length - k) noRes))) ∧ Hid (Below w.heap.size w wr)) (fun i _ => l.length - (intOf i).toNat)
  case atStart => exact ⟨0, Nat.zero_le _, rfl, HN0, HB0⟩
  case round =>
    clear HN0 HB0
    obtain ⟨k, hk, rfl, HN, HB⟩ := hrel
    have hbs := HB.out.size
    by_cases hlt : k < l.length
    · obtain ⟨g, o, rfl, hg, hcell1, hcell2⟩ := hat k hlt
      have s1 := (HB.out.cell (p := ⟨g, o + k * 2, none⟩) hg).trans hcell1
      have s2 := (HB.out.cell (p := ⟨g, o + k * 2 + 1, none⟩) hg).trans hcell2
      have HC := Lib.hid (fun W => toResult_any l[k] W)
      have ht : (l.take k).length = k := by rw [List.length_take]; omega
      have er : List.replicate (l.length - k) noRes = noRes :: List.replicate (l.length - (k + 1)) noRes := by rw [show l.length - k = (l.length - (k + 1)) + 1 by omega, List.replicate_succ]
      rw [er] at HN
      have HE := Lib.hid (set_two (l.take k) k ht noRes (List.replicate (l.length - (k + 1)) noRes) l[k])
      have HE2 := Lib.hid (get_two (l.take k) k ht noRes (List.replicate (l.length - (k + 1)) noRes))
      have HT : Hid (l.take k ++ [l[k]] = l.take (k + 1)) := (List.take_succ_eq_append_getElem hlt).symm
      rw [HT.out] at HE
      clear hcell1 hcell2 hat HT er ht
      generalize l[k] = x at s1 s2 HC HE
      obtain ⟨x1, x2⟩ := x
      unfold resV at HC
      simp only at s1 s2 HC HE
      go_wp2_with fail
      refine (HC.out _).mono ?_
      rintro e w1 ⟨rfl, hb1⟩
      have HN1 := Lib.hid (own_belowG HN.out hb1)
      have HB1 := Lib.hid (HB.out.trans (hb1.mono HB.out.size))
      have hfz := HN1.out.frozenAt (k * 2)
      have hfz2 := HN1.out.frozenAt (k * 2 + 1)
      have hcz : w1.cell? ⟨w.heap.size, k * 2, none⟩ = some (.string ByteArray.empty) := by rw [HN1.out.cellAt (k * 2) (by omega), HE2.out.1]; rfl
      have hcz2 : w1.cell? ⟨w.heap.size, k * 2 + 1, none⟩ = some (.int .i64 0) := by rw [HN1.out.cellAt (k * 2 + 1) (by omega), HE2.out.2]; rfl
      have hst := HN1.out.stored (k * 2) (.string ⟨x1.toArray⟩)
      have hst2 := hst.1.stored (k * 2 + 1) (.int .i64 x2)
      rw [HE.out] at hst2
      have HN2 := Lib.hid hst2.1
      have HB2 := Lib.hid ((HB1.out.trans (only_below hst.2 (Nat.le_refl _) HB1.out.size)).trans (only_below hst2.2 (Nat.le_refl _) (Nat.le_trans HB1.out.size hst.2.size)))
      clear hst hst2 HN HB HC HE HE2 HN1 HB1 hb1
      go_wp2_with fail
      go_roundw
      case rel => exact ⟨k + 1, by omega, by go_num, HN2, HB2⟩
      case measure => simp [intOf]; omega
    · have HN1 : Hid (wr.ownsRow w.heap.size 75 2 (.slice (some ⟨w.heap.size, 0, none⟩) l.length l.length) l.length (RC l)) := by
        have := HN.out
        rw [List.take_of_length_le (by omega), show l.length - k = 0 by omega] at this
        simpa [RC, Hid] using this
      clear HN hat
      go_wp2_with fail
      go_ret
      exact ⟨_, rfl, HN1.out, HB.out⟩

set_option maxRecDepth 20000 in
set_option maxHeartbeats 2000000 in
theorem eqResultS_any (l m : List ResT) (v u : Value) (w : World) (hr1 : RowR w v l) (hr2 : RowR w u m) (hl : l.length ≤ 2000000) :
    Calls Tryz.prog 14 #[v, u] w fun e w' => e = .returned (.bool (decide (l = m))) ∧ Below w.heap.size w w' := by
  obtain ⟨a, cap, rfl, hc1, hc2, hat⟩ := hr1.res
  obtain ⟨a2, cap2, rfl, hc3, hc4, hat2⟩ := hr2.res
  clear hr1 hr2
  unfold maxLen at hc2 hc4
  by_cases hlen : l.length = m.length
  · have hlen1 : ((l.length : Int) != (m.length : Int)) = false := by simp [hlen]
    have hle1 : l.length ≤ m.length := by omega
    have hle2 : m.length ≤ l.length := by omega
    clear hlen
    go_enter Tryz.func14, Tryz.ntmps14
    go_wp2_with fail
    go_loopw [5] (fun i wr => ∃ k : Nat, k ≤ l.length ∧ i = .int .i64 k ∧ Hid (l.take k = m.take k) ∧ Hid (Below w.heap.size w wr)) (fun i _ => l.length - (intOf i).toNat)
    case atStart => exact ⟨0, Nat.zero_le _, rfl, rfl, Below.refl _ _⟩
    case round =>
      obtain ⟨k, hk, rfl, HO, HB⟩ := hrel
      by_cases hlt : k < l.length
      · obtain ⟨g, o, rfl, hg, hcell1, hcell2⟩ := hat k hlt
        obtain ⟨g2, o2, rfl, hg2, hcell4, hcell5⟩ := hat2 k (by omega)
        have s1 := (HB.out.cell (p := ⟨g, o + k * 2, none⟩) hg).trans hcell1
        have s2 := (HB.out.cell (p := ⟨g, o + k * 2 + 1, none⟩) hg).trans hcell2
        have s4 := (HB.out.cell (p := ⟨g2, o2 + k * 2, none⟩) hg2).trans hcell4
        have s5 := (HB.out.cell (p := ⟨g2, o2 + k * 2 + 1, none⟩) hg2).trans hcell5
        have hi1 : (k : Int) < (l.length : Int) := by omega
        have hi2 : (k : Int) < (m.length : Int) := by omega
        have hbs := HB.out.size
        have hgw : g < wr.heap.size := by omega
        have hgw2 : g2 < wr.heap.size := by omega
        clear hcell1 hcell2 hcell4 hcell5 hat hat2
        obtain ⟨b, hbE⟩ : ∃ b, decide (l[k] = m[k]) = b := ⟨_, rfl⟩
        have HC := Lib.hid (fun W => eqResult_b hbE W)
        have HS : Hid (if b then l.take (k + 1) = m.take (k + 1) else decide (l = m) = false) := by
          unfold Hid
          subst hbE
          by_cases he : l[k] = m[k]
          · simp only [he, decide_true, if_true]; exact same_next HO.out hlt (by omega) he
          · simp only [he, decide_false]; exact decide_eq_false (same_not hlt (by omega) he)
        clear HO hbE
        generalize l[k] = x at s1 s2 HC
        generalize m[k] = y at s4 s5 HC
        obtain ⟨x1, x2⟩ := x
        obtain ⟨y1, y2⟩ := y
        unfold resV at HC
        simp only at s1 s2 s4 s5 HC
        go_wp2_with fail
        go_region_held3 (fun w' => w'.cell? ⟨g, o + k * 2, none⟩ = some (.string ⟨x1.toArray⟩) ∧ w'.cell? ⟨g, o + k * 2 + 1, none⟩ = some (.int .i64 x2) ∧ w'.cell? ⟨g2, o2 + k * 2, none⟩ = some (.string ⟨y1.toArray⟩) ∧ w'.cell? ⟨g2, o2 + k * 2 + 1, none⟩ = some (.int .i64 y2)) (first | exact ⟨s1, s2, s4, s5⟩ | exact ks)
          (first | (go_at_call 52; refine (HC.out _).mono ?_; rintro e w5 ⟨rfl, hb5⟩; have ks := And.intro ((hb5.cell (p := ⟨g, o + k * 2, none⟩) hgw).trans s1) (And.intro ((hb5.cell (p := ⟨g, o + k * 2 + 1, none⟩) hgw).trans s2) (And.intro ((hb5.cell (p := ⟨g2, o2 + k * 2, none⟩) hgw2).trans s4) ((hb5.cell (p := ⟨g2, o2 + k * 2 + 1, none⟩) hgw2).trans s5)))))
        have HB5 := Lib.hid ((Below.drew HB.out).trans (hb5.mono HB.out.size))
        clear hb5 ks
        rcases b with _ | _
        · go_wp2_with fail
          go_ret
          exact ⟨ret_bool (by have := HS.out; simpa using this.symm), HB5.out⟩
        · go_wp2_with fail
          go_roundw
          case rel => exact ⟨k + 1, by omega, by go_num, HS.out, HB5⟩
          case measure => simp [intOf]; omega
      · have HS : Hid (decide (l = m) = true) := decide_eq_true (same_all HO.out (by omega) (by omega))
        clear HO hat hat2
        go_wp2_with fail
        go_ret
        exact ⟨ret_bool HS.out.symm, HB.out⟩
  · have hlen1 : ((l.length : Int) != (m.length : Int)) = true := by simp; omega
    have HS : Hid (decide (l = m) = false) := decide_eq_false (fun h => hlen (by rw [h]))
    clear hat hat2
    go_enter Tryz.func14, Tryz.ntmps14
    go_wp2_with fail
    go_ret
    exact ⟨ret_bool HS.out.symm, Below.refl _ _⟩

/-- The results that are marks, from k on. -/
def marksR (k : Nat) (n : Nat) : List ResT := (List.range n).map (fun (i : Nat) => (markT (k + i * 2), ((k + i * 2 + 1 : Nat) : Int)))
theorem marksR_len (k n : Nat) : (marksR k n).length = n := by simp [marksR]
theorem marksR_snoc (k n : Nat) : marksR k (n + 1) = marksR k n ++ [(markT (k + n * 2), ((k + n * 2 + 1 : Nat) : Int))] := by simp [marksR, List.range_succ]
theorem set_bodyR (a : List ResT) (k : Nat) (ha : a.length = k) (x t : List UInt8) (q : Int) (rest : List ResT) :
    (RC a ++ RC ((t, q) :: rest)).set (k * 2) (.string ⟨x.toArray⟩) = RC a ++ RC ((x, q) :: rest) := by
  have hl : (RC a).length = k * 2 := by rw [RC_len, ha]
  rw [List.set_append_right _ _ (by omega), hl, Nat.sub_self]
  rfl
theorem set_stateR (a : List ResT) (k : Nat) (ha : a.length = k) (t : List UInt8) (x q : Int) (rest : List ResT) :
    (RC a ++ RC ((t, q) :: rest)).set (k * 2 + 1) (.int .i64 x) = RC (a ++ [(t, x)]) ++ RC rest := by
  have hl : (RC a).length = k * 2 := by rw [RC_len, ha]
  rw [List.set_append_right _ _ (by omega), hl, show k * 2 + 1 - k * 2 = 1 by omega, RC_append]
  simp [RC, resC]
theorem mark_r (j : Nat) (i : Int) (h : (j : Int) = i) (hk1 : j ≤ 8000000) (h1 : 1 ≤ j) (w : World) : Calls Tryz.prog 60 #[.int .i64 i] w fun e w' => e = .returned (.string ⟨(markT j).toArray⟩) ∧ Below w.heap.size w w' := by
  subst h
  exact markText_any j w hk1 h1

/-- The results hold the marks, and nothing but their own block has turned. -/
def MarkedR (B : Nat) (v : Value) (k : Nat) (n : Nat) (w : World) (e : Ending) (w' : World) : Prop :=
  e = .returned (.int .i64 ((k : Int) + (n : Int) * 2)) ∧ w'.ownsRow B 75 2 v n (RC (marksR k n)) ∧ w.grownBy w' v.ownBlock

set_option maxRecDepth 20000 in
set_option maxHeartbeats 1000000 in
theorem markResultS_any (l : List ResT) (k : Nat) (B : Nat) (v : Value) (w : World) (hown : w.ownsRow B 75 2 v l.length (RC l)) (hl : l.length ≤ 1100000) (hk : k ≤ 4000000) (hk1 : 1 ≤ k) :
    Calls Tryz.prog 21 #[v, .int .i64 (k : Int)] w (MarkedR B v k l.length w) := by
  have HW := Lib.hid hown
  obtain ⟨a, cap, rfl⟩ := own_sliceG hown
  clear hown
  go_enter Tryz.func21, Tryz.ntmps21
  go_wp2_with fail
  go_loopw [1, 5] (fun q i wr => ∃ j : Nat, j ≤ l.length ∧ q = .int .i64 ((k : Int) + (j : Int) * 2) ∧ i = .int .i64 j ∧ wr.ownsRow B 75 2 (.slice a l.length cap) l.length (RC (marksR k j) ++ RC (l.drop j)) ∧ w.grownBy wr (Value.slice a l.length cap).ownBlock) (fun _ i _ => l.length - (intOf i).toNat)
  case atStart => exact ⟨0, Nat.zero_le _, by simp, rfl, HW.out, grown_refl _ _⟩
  case round =>
    clear HW
    obtain ⟨j, hj, rfl, rfl, hown, hg⟩ := hrel
    by_cases hlt : j < l.length
    · obtain ⟨g, c2, hv⟩ : ∃ g c2, (Value.slice a l.length cap) = .slice (some ⟨g, 0, none⟩) l.length c2 := by
        rcases hown.2 with ⟨_, h0⟩ | ⟨g, c2, cur, hv, _⟩
        · omega
        · exact ⟨g, c2, hv⟩
      injection hv with hv1 hv2 hv3
      subst hv1
      have hc4 : l.length ≤ cap := by
        rcases hown.2 with ⟨_, h0⟩ | ⟨g, c2, cur, hv, _, _, h5, _⟩
        · omega
        · injection hv with _ _ hv3; omega
      have HC := Lib.hid (fun W => mark_r (k + j * 2) ((k : Int) + (j : Int) * 2) (by omega) (by omega) (by omega) W)
      rw [List.drop_eq_getElem_cons hlt, show l[j] = (l[j].1, l[j].2) from rfl] at hown
      have HE := Lib.hid (marksR_snoc k j)
      rw [show (((k + j * 2 + 1 : Nat) : Int)) = (k : Int) + (j : Int) * 2 + 1 by omega] at HE
      have ha := marksR_len k j
      have HG := Lib.hid hg
      have HN := Lib.hid hown
      clear hown hg hv2 hv3
      generalize l[j].1 = t at HN
      generalize l[j].2 = q at HN
      generalize markT (k + j * 2) = x at HC HE
      go_wp2_with fail
      refine (HC.out _).mono ?_
      rintro e w3 ⟨rfl, hb3⟩
      have HN3 := Lib.hid (own_belowG HN.out hb3)
      have hfz := HN3.out.frozenAt (j * 2)
      have hcz : w3.cell? ⟨g, j * 2, none⟩ = some (.string ⟨t.toArray⟩) := by rw [HN3.out.cellAt (j * 2) (by omega), (get_two (marksR k j) j ha _ _).1]
      have hst := HN3.out.stored (j * 2) (.string ⟨x.toArray⟩)
      rw [set_bodyR (marksR k j) j ha] at hst
      have hfz1 := hst.1.frozenAt (j * 2 + 1)
      have hcz1 : (w3.setCell ⟨g, j * 2, none⟩ (.string ⟨x.toArray⟩)).cell? ⟨g, j * 2 + 1, none⟩ = some (.int .i64 q) := by rw [hst.1.cellAt (j * 2 + 1) (by omega), (get_two (marksR k j) j ha _ _).2]
      have hst1 := hst.1.stored (j * 2 + 1) (.int .i64 ((k : Int) + (j : Int) * 2 + 1))
      rw [set_stateR (marksR k j) j ha, ← HE.out] at hst1
      have HN4 := Lib.hid hst1.1
      have HG4 := Lib.hid (grown_trans (grown_trans (grown_trans HG.out (below_grown hb3)) hst.2) hst1.2)
      clear hst hst1 hb3 HN HN3 HG ha HE HC
      go_wp2_with fail
      go_roundw
      case rel => exact ⟨j + 1, by omega, by go_num, by go_num, HN4.out, HG4.out⟩
      case measure => simp [intOf]; omega
    · obtain rfl : j = l.length := by omega
      have HN : Hid (wr.ownsRow B 75 2 (.slice a l.length cap) l.length (RC (marksR k l.length))) := by
        rw [List.drop_of_length_le (Nat.le_refl _)] at hown
        simpa [RC, Hid] using hown
      have HG := Lib.hid hg
      clear hown hg
      go_wp2_with fail
      go_ret
      exact ⟨rfl, HN.out, HG.out⟩
end Go.Proofs.YtgolhfmmlanmlaaGreatDoor
