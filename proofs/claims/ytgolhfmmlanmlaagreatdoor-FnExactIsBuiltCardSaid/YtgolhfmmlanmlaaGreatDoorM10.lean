/- Texts of one claim, joined in their order. -/
import Derived.Test.YtgolhfmmlanmlaaGreatDoorM9
import Derived.Test.YtgolhfmmlanmlaaGreatDoorM3
import Derived.Test.YtgolhfmmlanmlaaGreatDoorM6

/- Walks: the program's doDeed, a kind each. -/
namespace Go.Proofs.YtgolhfmmlanmlaaGreatDoor
open Go.RowKit Pth

set_option maxRecDepth 20000 in
set_option maxHeartbeats 2000000 in
theorem do_upper (n : Int) (t : List UInt8) (ins : List (List UInt8)) (u : Value) (acc : List UInt8) (w : World) (ha : acc.length ≤ 40) :
    Calls Tryz.prog 165 #[upperV, u, .string ⟨acc.toArray⟩] w (StepPost (rawT (3, n, t) ins acc) w) := by
  have HT := Lib.hid (show rawT (3, n, t) ins acc = some (upT acc) by simp [rawT])
  have HC := Lib.hid (fun W => upper_any acc W (by omega))
  unfold upperV
  have qcat := ta_upper_cat (.agg #[])
  have qtext := ta_upper_text (.agg #[])
  have qupper := ta_upper_upper (.agg #[])
  go_enter Tryz.func165, Tryz.ntmps165
  go_wp2_with fail
  refine (HC.out _).mono ?_
  rintro e w1 ⟨rfl, hb⟩
  have HB := Lib.hid (below_new hb)
  clear hb
  go_wp2_with fail
  go_ret2
  exact ⟨by rw [HT.out]; rfl, HB.out⟩

set_option maxRecDepth 20000 in
set_option maxHeartbeats 2000000 in
theorem do_sort (n : Int) (t : List UInt8) (ins : List (List UInt8)) (u : Value) (acc : List UInt8) (w : World) (ha : acc.length ≤ 40) :
    Calls Tryz.prog 165 #[sortV, u, .string ⟨acc.toArray⟩] w (StepPost (rawT (4, n, t) ins acc) w) := by
  have HT := Lib.hid (show rawT (4, n, t) ins acc = some (sortT acc) by simp [rawT])
  have HC := Lib.hid (fun W => sortBytes_any acc W (by omega))
  unfold sortV
  have qcat := ta_sort_cat (.agg #[])
  have qtext := ta_sort_text (.agg #[])
  have qupper := ta_sort_upper (.agg #[])
  have qsort := ta_sort_sort (.agg #[])
  go_enter Tryz.func165, Tryz.ntmps165
  go_wp2_with fail
  refine (HC.out _).mono ?_
  rintro e w1 ⟨rfl, hb⟩
  have HB := Lib.hid (below_new hb)
  clear hb
  go_wp2_with fail
  go_ret2
  exact ⟨by rw [HT.out]; rfl, HB.out⟩

set_option maxRecDepth 20000 in
set_option maxHeartbeats 2000000 in
theorem do_count (n : Int) (t : List UInt8) (ins : List (List UInt8)) (u : Value) (acc : List UInt8) (w : World) (ha : acc.length ≤ 40) :
    Calls Tryz.prog 165 #[countV, u, .string ⟨acc.toArray⟩] w (StepPost (rawT (6, n, t) ins acc) w) := by
  have HT := Lib.hid (show rawT (6, n, t) ins acc = some (numT acc.length) by simp [rawT])
  have HC := Lib.hid (fun W => itoa_any acc.length W (by omega))
  unfold countV
  have qcat := ta_count_cat (.agg #[])
  have qtext := ta_count_text (.agg #[])
  have qupper := ta_count_upper (.agg #[])
  have qsort := ta_count_sort (.agg #[])
  have qdrop := ta_count_drop (.agg #[])
  have qcount := ta_count_count (.agg #[])
  go_enter Tryz.func165, Tryz.ntmps165
  go_wp2_with fail
  refine (HC.out _).mono ?_
  rintro e w1 ⟨rfl, rfl⟩
  go_wp2_with fail
  go_ret2
  exact ⟨by rw [HT.out]; rfl, (Below.refl _ _).alloc (Nat.le_refl _) _⟩

set_option maxRecDepth 20000 in
set_option maxHeartbeats 2000000 in
theorem do_fail (n : Int) (t : List UInt8) (ins : List (List UInt8)) (u : Value) (acc : List UInt8) (w : World) :
    Calls Tryz.prog 165 #[failV, u, .string ⟨acc.toArray⟩] w (StepPost (rawT (7, n, t) ins acc) w) := by
  have HT := Lib.hid (show rawT (7, n, t) ins acc = none by simp [rawT])
  unfold failV
  have qcat := ta_fail_cat (.agg #[])
  have qtext := ta_fail_text (.agg #[])
  have qupper := ta_fail_upper (.agg #[])
  have qsort := ta_fail_sort (.agg #[])
  have qdrop := ta_fail_drop (.agg #[])
  have qcount := ta_fail_count (.agg #[])
  have qfail := ta_fail_fail (.agg #[])
  go_enter Tryz.func165, Tryz.ntmps165
  go_wp2_with fail
  go_ret2
  exact ⟨by rw [HT.out]; rfl, (Below.refl _ _).alloc (Nat.le_refl _) _⟩

set_option maxRecDepth 20000 in
set_option maxHeartbeats 2000000 in
theorem do_text (n : Int) (t : List UInt8) (ins : List (List UInt8)) (u : Value) (acc : List UInt8) (w : World) (ha : acc.length ≤ 40) (ht : t.length ≤ 10) :
    Calls Tryz.prog 165 #[textV t, u, .string ⟨acc.toArray⟩] w (StepPost (rawT (2, n, t) ins acc) w) := by
  have HT := Lib.hid (show rawT (2, n, t) ins acc = some (acc ++ t) by simp [rawT])
  unfold textV
  have qcat := ta_text_cat (.agg #[.string ⟨t.toArray⟩])
  have qtext := ta_text_text (.agg #[.string ⟨t.toArray⟩])
  go_enter Tryz.func165, Tryz.ntmps165
  go_wp2_with fail
  go_ret2
  exact ⟨by rw [HT.out]; show _ = Ending.returned (.tuple #[.string ⟨(acc ++ t).toArray⟩, .bool true]); rw [← data_app]; rfl, (Below.refl _ _).alloc (Nat.le_refl _) _⟩

set_option maxRecDepth 20000 in
set_option maxHeartbeats 2000000 in
theorem do_cat (ins : List (List UInt8)) (n : Nat) (t : List UInt8) (u : Value) (acc : List UInt8) (w : World) (hrow : RowV w u (S ins)) (ha : acc.length ≤ 40) (hn : n < ins.length) (hx : ∀ x ∈ ins, x.length ≤ 40) (_hi : ins.length ≤ 10) :
    Calls Tryz.prog 165 #[catV n, u, .string ⟨acc.toArray⟩] w (StepPost (rawT (1, n, t) ins acc) w) := by
  obtain ⟨a, cap, rfl, hc1, hc2, hat⟩ := hrow.texts
  clear hrow
  obtain ⟨g, o, rfl, hg, hcell⟩ := hat n hn
  have hxl := hx ins[n] (List.getElem_mem hn)
  have hcell2 : (w.alloc (.cells #[.int .i64 (n : Int)] 203)).cell? ⟨g, o + n, none⟩ = some (.string ⟨ins[n].toArray⟩) := by rw [World.cell?_alloc_lt _ _ _ hg]; exact hcell
  have HT := Lib.hid (show rawT (1, n, t) ins acc = some (acc ++ ins[n]) by
    show some (acc ++ (ins[(n : Int).toNat]?).getD []) = _
    simp [hn])
  obtain ⟨y, hy⟩ : ∃ y, y = ins[n] := ⟨_, rfl⟩
  rw [← hy] at hcell hxl hcell2 HT
  have hnz : (n : Int) < (ins.length : Int) := by omega
  clear hat hx hy hc1 hc2
  unfold catV
  have qcat := ta_cat_cat (.agg #[.int .i64 (n : Int)])
  go_enter Tryz.func165, Tryz.ntmps165
  go_wp2_with fail
  go_ret2
  exact ⟨by rw [HT.out]; show _ = Ending.returned (.tuple #[.string ⟨(acc ++ y).toArray⟩, .bool true]); rw [← data_app]; rfl, (Below.refl _ _).alloc (Nat.le_refl _) _⟩

set_option maxRecDepth 20000 in
set_option maxHeartbeats 2000000 in
theorem do_drop (ins : List (List UInt8)) (n : Nat) (t : List UInt8) (u : Value) (acc : List UInt8) (w : World) (_ha : acc.length ≤ 40) (_hn : n ≤ 40) :
    Calls Tryz.prog 165 #[dropV n, u, .string ⟨acc.toArray⟩] w (StepPost (rawT (5, n, t) ins acc) w) := by
  have HT := Lib.hid (show rawT (5, n, t) ins acc = some (acc.drop n) by
    show some (acc.drop (n : Int).toNat) = _
    simp only [Int.toNat_natCast])
  have HD := Lib.hid (drop_min acc n)
  by_cases hle : n ≤ acc.length
  · have hz : (n : Int) ≤ (acc.length : Int) := by omega
    have hm : min (n : Int) (acc.length : Int) = (n : Int) := by omega
    rw [Nat.min_eq_right hle] at HD
    unfold dropV
    have qcat := ta_drop_cat (.agg #[.int .i64 (n : Int)])
    have qtext := ta_drop_text (.agg #[.int .i64 (n : Int)])
    have qupper := ta_drop_upper (.agg #[.int .i64 (n : Int)])
    have qsort := ta_drop_sort (.agg #[.int .i64 (n : Int)])
    have qdrop := ta_drop_drop (.agg #[.int .i64 (n : Int)])
    go_enter Tryz.func165, Tryz.ntmps165
    go_wp2_with fail
    go_ret2
    exact ⟨by rw [HT.out]; show _ = Ending.returned (.tuple #[.string ⟨(acc.drop n).toArray⟩, .bool true]); rw [← HD.out]; rfl, (Below.refl _ _).alloc (Nat.le_refl _) _⟩
  · have hz : (acc.length : Int) < (n : Int) := by omega
    have hm : min (n : Int) (acc.length : Int) = (acc.length : Int) := by omega
    rw [Nat.min_eq_left (by omega)] at HD
    unfold dropV
    have qcat := ta_drop_cat (.agg #[.int .i64 (n : Int)])
    have qtext := ta_drop_text (.agg #[.int .i64 (n : Int)])
    have qupper := ta_drop_upper (.agg #[.int .i64 (n : Int)])
    have qsort := ta_drop_sort (.agg #[.int .i64 (n : Int)])
    have qdrop := ta_drop_drop (.agg #[.int .i64 (n : Int)])
    go_enter Tryz.func165, Tryz.ntmps165
    go_wp2_with fail
    go_ret2
    exact ⟨by rw [HT.out, show acc.drop n = [] from List.drop_eq_nil_of_le (by omega)]; rfl, (Below.refl _ _).alloc (Nat.le_refl _) _⟩

theorem do_any (o : OpT) (ins : List (List UInt8)) (u : Value) (acc : List UInt8) (w : World) (hrow : RowV w u (S ins)) (hok : opOk ins.length o = true) (ht : textsL ins = true) (ha : acc.length ≤ 40) :
    Calls Tryz.prog 165 #[deedV o, u, .string ⟨acc.toArray⟩] w (StepPost (rawT o ins acc) w) := by
  obtain ⟨k, n, t⟩ := o
  simp only [textsL, Bool.and_eq_true, List.all_eq_true, decide_eq_true_eq] at ht
  simp only [opOk] at hok
  split at hok
  · rename_i h; subst h
    simp only [Bool.and_eq_true, decide_eq_true_eq] at hok
    obtain ⟨m, rfl⟩ : ∃ m : Nat, n = m := ⟨n.toNat, by omega⟩
    exact do_cat ins m t u acc w hrow ha (by omega) ht.1 ht.2
  split at hok
  · rename_i h; subst h
    simp only [Bool.and_eq_true, decide_eq_true_eq] at hok
    exact do_text n t ins u acc w ha hok.2
  split at hok
  · rename_i h; subst h
    simp only [Bool.and_eq_true, decide_eq_true_eq] at hok
    obtain ⟨m, rfl⟩ : ∃ m : Nat, n = m := ⟨n.toNat, by omega⟩
    exact do_drop ins m t u acc w ha (by omega)
  split at hok
  · rename_i h
    rcases h with h | h | h | h <;> subst h
    · exact do_upper n t ins u acc w ha
    · exact do_sort n t ins u acc w ha
    · exact do_count n t ins u acc w ha
    · exact do_fail n t ins u acc w
  · cases hok

end Go.Proofs.YtgolhfmmlanmlaaGreatDoor

/- Walks: the program's runDeeds. -/
namespace Go.Proofs.YtgolhfmmlanmlaaGreatDoor
open Go.RowKit Pth

theorem raw_len {o : OpT} {ins : List (List UInt8)} {acc z : List UInt8} (hok : opOk ins.length o = true) (ht : textsL ins = true) (ha : acc.length ≤ 40) (h : rawT o ins acc = some z) : z.length ≤ 80 := by
  obtain ⟨k, n, t⟩ := o
  simp only [textsL, Bool.and_eq_true, List.all_eq_true, decide_eq_true_eq] at ht
  unfold rawT at h
  simp only at h
  split at h
  · simp only [Option.some.injEq] at h; subst h
    rcases hm : ins[n.toNat]? with _ | y
    · simp; omega
    · have := ht.1 y (List.mem_of_getElem? hm)
      simp; omega
  split at h
  · rename_i h1 h2
    simp only [Option.some.injEq] at h; subst h
    simp only [opOk, h2, if_true] at hok
    simp at hok ⊢; omega
  split at h
  · simp only [Option.some.injEq] at h; subst h; rw [upT_len]; omega
  split at h
  · simp only [Option.some.injEq] at h; subst h; rw [sortT_len]; omega
  split at h
  · simp only [Option.some.injEq] at h; subst h; simp; omega
  split at h
  · simp only [Option.some.injEq] at h; subst h; have := numT_len acc.length; omega
  · cases h

set_option maxRecDepth 20000 in
set_option maxHeartbeats 2000000 in
theorem runD_any (r : List OpT) (ins : List (List UInt8)) (v u : Value) (acc0 : List UInt8) (w : World) (hrow : RowV w v (DC r)) (hins : RowV w u (S ins)) (hok : r.all (opOk ins.length) = true) (ht : textsL ins = true) (ha0 : acc0.length ≤ 40) :
    Calls Tryz.prog 157 #[v, u, .string ⟨acc0.toArray⟩] w (StepPost (Pth.runT ins r acc0) w) := by
  obtain ⟨a, cap, rfl, hc1, hc2, hat⟩ := hrow
  have hdc : (DC r).length = r.length := by simp [DC]
  rw [hdc] at hc1 ⊢
  have hat2 : ∀ k (hk : k < r.length), ∃ g o, a = some ⟨g, o, none⟩ ∧ g < w.heap.size ∧ w.cell? ⟨g, o + k, none⟩ = some (deedV r[k]) := fun k hk => by
    obtain ⟨g, o, h1, h2, h3⟩ := hat k (by rw [hdc]; exact hk)
    exact ⟨g, o, h1, h2, by rw [h3]; simp [DC]⟩
  have HI := Lib.hid hins
  have HK : Hid (∀ k (hk : k < r.length), opOk ins.length r[k] = true) := fun k hk => List.all_eq_true.1 hok _ (List.getElem_mem hk)
  have HX := Lib.hid ht
  clear hat hins hok ht hdc
  unfold maxLen at hc2
  obtain ⟨R, hR⟩ : ∃ R, R = Pth.runT ins r acc0 := ⟨_, rfl⟩
  rw [← hR]
  go_enter Tryz.func157, Tryz.ntmps157
  go_wp2_with fail
  go_loopw [2, 14] (fun s i wr => ∃ (k : Nat) (acc : List UInt8), k ≤ r.length ∧ acc.length ≤ 40 ∧ s = .string ⟨acc.toArray⟩ ∧ i = .int .i64 k ∧ Hid (Below w.heap.size w wr) ∧ Hid (R = Pth.runT ins (r.drop k) acc)) (fun _ i _ => r.length - (intOf i).toNat)
  case atStart => exact ⟨0, acc0, Nat.zero_le _, ha0, rfl, by go_num, Below.refl _ _, hR⟩
  case round =>
    clear hR ha0
    obtain ⟨k, acc, hk, hacc, rfl, rfl, HB, HO⟩ := hrel
    by_cases hlt : k < r.length
    · obtain ⟨g, o, rfl, hg, hcell⟩ := hat2 k hlt
      have s1 := (HB.out.cell (p := ⟨g, o + k, none⟩) hg).trans hcell
      have hltz : (k : Int) < (r.length : Int) := by omega
      have HC := Lib.hid (do_any r[k] ins u acc wr (HI.out.below HB.out) (HK.out k hlt) HX.out hacc)
      rcases hy : rawT r[k] ins acc with _ | z
      · have HV := Lib.hid (run_none HO.out hlt (by rw [Pth.stepT, hy]; rfl))
        rw [hy] at HC
        clear hcell hat2 HO hy
        generalize deedV r[k] = x at s1 HC
        go_wp2_with fail
        refine HC.out.mono ?_
        rintro e w1 ⟨rfl, hb1⟩
        have HB1 := Lib.hid (below_step HB.out hb1)
        clear hb1 HC
        go_wp2_with fail
        go_ret2
        exact ⟨by rw [HV.out]; rfl, HB1.out⟩
      · have hz := raw_len (HK.out k hlt) HX.out hacc hy
        have HL := Lib.hid (fun W => long_any z W (by unfold maxLen; omega))
        rw [hy] at HC
        by_cases h40 : z.length ≤ 40
        · have HV := Lib.hid (run_some HO.out hlt (show Pth.stepT r[k] ins acc = some z by rw [Pth.stepT, hy]; exact if_pos h40))
          rw [show decide (40 < z.length) = false from decide_eq_false (by omega)] at HL
          clear hcell hat2 HO hy
          generalize deedV r[k] = x at s1 HC
          go_wp2_with fail
          refine HC.out.mono ?_
          rintro e w1 ⟨rfl, hb1⟩
          have HB1 := Lib.hid (below_step HB.out hb1)
          clear hb1 HC
          go_wp2_with (go_at_call 82; refine (HL.out _).mono ?_; rintro e w2 ⟨rfl, rfl⟩)
          go_roundw
          case rel => exact ⟨k + 1, z, by omega, h40, rfl, by go_num, HB1, HV⟩
          case measure => simp [intOf]; omega
        · have HV := Lib.hid (run_none HO.out hlt (show Pth.stepT r[k] ins acc = none by rw [Pth.stepT, hy]; exact if_neg h40))
          rw [show decide (40 < z.length) = true from decide_eq_true (by omega)] at HL
          clear hcell hat2 HO hy
          generalize deedV r[k] = x at s1 HC
          go_wp2_with fail
          refine HC.out.mono ?_
          rintro e w1 ⟨rfl, hb1⟩
          have HB1 := Lib.hid (below_step HB.out hb1)
          clear hb1 HC
          go_wp2_with (go_at_call 82; refine (HL.out _).mono ?_; rintro e w2 ⟨rfl, rfl⟩)
          go_ret2
          exact ⟨by rw [HV.out]; rfl, HB1.out⟩
    · have HV := Lib.hid (show R = some acc by rw [HO.out, List.drop_eq_nil_of_le (by omega)]; rfl)
      have hltz : ¬ ((k : Int) < (r.length : Int)) := by omega
      have HC := Lib.hid (fun W => clone_text acc W (by omega))
      clear HO hat2
      go_wp2_with fail
      refine (HC.out _).mono ?_
      rintro e w1 ⟨rfl, hb1⟩
      have HB1 := Lib.hid (below_step HB.out hb1)
      clear hb1 HC
      go_wp2_with fail
      go_ret2
      exact ⟨by rw [HV.out]; rfl, HB1.out⟩

end Go.Proofs.YtgolhfmmlanmlaaGreatDoor

/- Walks: the program's RunRecipe. -/
namespace Go.Proofs.YtgolhfmmlanmlaaGreatDoor
open Go.RowKit Pth

set_option maxRecDepth 20000 in
set_option maxHeartbeats 2000000 in
theorem implRun_any (r : List OpT) (ins : List (List UInt8)) (v u : Value) (w : World) (hrow : RowO w v r) (hins : RowV w u (S ins)) (hx : ∀ x ∈ ins, x.length ≤ maxLen) :
    Calls Tryz.prog 140 #[v, u] w (TellPost (runOk r ins) (runA r ins) w) := by
  have HD := Lib.hid (deedsOn_any r ins v u w hrow hins hx)
  have HI := Lib.hid hins
  clear hrow hins hx
  rcases hg : runOk r ins with _ | _
  · have HA := Lib.hid (show runA r ins = none by rw [runA, hg]; rfl)
    rw [hg] at HD
    clear hg
    go_enter Tryz.func140, Tryz.ntmps140
    go_wp2_with fail
    refine HD.out.mono ?_
    rintro e w1 ⟨d, rfl, hn, hb⟩
    have HB := Lib.hid hb
    clear hn hb HD
    go_wp2_with fail
    go_ret3
    exact ⟨by rw [HA.out]; rfl, HB.out⟩
  · have HA := Lib.hid (show runA r ins = Pth.runT ins r [] by rw [runA, hg]; rfl)
    have hh : textsL ins = true ∧ goodR r ins.length = true := by simpa [runOk] using hg
    have HR := Lib.hid (fun (W : World) (d : Value) (h1 : RowV W d (DC r)) (h2 : RowV W u (S ins)) => runD_any r ins d u [] W h1 h2 (goodR_all hh.2) hh.1 (by simp))
    rw [hg] at HD
    clear hg hh
    go_enter Tryz.func140, Tryz.ntmps140
    go_wp2_with fail
    refine HD.out.mono ?_
    rintro e w1 ⟨d, rfl, hn, hb⟩
    have HC := Lib.hid (HR.out w1 d (by have := RowV.of_own hn; simpa using this) (HI.out.below hb))
    have HB := Lib.hid hb
    clear hn hb HD HR
    go_wp2_with fail
    refine HC.out.mono ?_
    rintro e w2 ⟨rfl, hb2⟩
    have HB2 := Lib.hid (below_step HB.out hb2)
    clear hb2 HC
    generalize Pth.runT ins r [] = y at HA
    go_wp2_with fail
    go_ret3
    exact ⟨by rw [HA.out]; rfl, HB2.out⟩

end Go.Proofs.YtgolhfmmlanmlaaGreatDoor

/- Walks: what a task is to be, of the program. -/
namespace Go.Proofs.YtgolhfmmlanmlaaGreatDoor
open Go.RowKit Pth

theorem makeTask_of (ls : List (List Int)) (l : List Int) (bs : List Bool) (rs : List (List OpT)) (m : List ResT) (t : Nat) (v u : Value) (w : World) (hp : PlanV w v ls l bs rs) (hr : RowR w u m) (hpl : planA ls l bs rs = true) (hmb : m.length = bs.length) (ht : t < ls.length) (hxm : Sml m) :
    Calls Tryz.prog 88 #[v, u, .int .i64 (t : Int)] w fun e w' => e = .returned (resV (makeM ls rs m t)) ∧ Below w.heap.size w w' := by
  have hrl := (plan_parts hpl).2.2.1
  have htr : t < rs.length := by omega
  obtain ⟨hl10, _⟩ := plan_task hpl ht
  have htx : textsL (bodiesL m ls[t]) = true := texts_of_sml hxm (by omega)
  have hgood : goodR rs[t] (ls[t].length : Int) = true := by
    have h1 := (plan_parts hpl).2.1
    have := (plan_parts hpl).2.2.2 t ht
    rw [planP_at ht (by omega) htr, Bool.and_eq_true] at this
    exact this.1
  have hok : runOk rs[t] (bodiesL m ls[t]) = true := by unfold runOk; rw [htx, bodies_len, hgood]; rfl
  have hra : runA rs[t] (bodiesL m ls[t]) = Pth.runT (bodiesL m ls[t]) rs[t] [] := by unfold runA; rw [hok]; rfl
  have e : makeM ls rs m t = madeR (firstL m ls[t]).2 (Pth.runT (bodiesL m ls[t]) rs[t] []).isSome (txtO (Pth.runT (bodiesL m ls[t]) rs[t] [])) := by unfold makeM; rw [getD_at _ ht, getD_at _ htr]
  rw [e]
  refine makeTask_any ls l bs rs m t _ _ (runOk rs[t] (bodiesL m ls[t])) v u w hp hr hpl hmb ht htr hxm (fun W a b ha hb => ?_)
  have := implRun_any rs[t] (bodiesL m ls[t]) a b W ha hb (fun x hx => by
    have h2 : (bodiesL m ls[t]).all (fun x => decide (x.length ≤ 40)) = true := by unfold textsL at htx; rw [Bool.and_eq_true] at htx; exact htx.1
    have := List.all_eq_true.1 h2 x hx
    rw [decide_eq_true_eq] at this
    unfold maxLen; omega)
  unfold TellPost at this
  rw [hra] at this
  exact this

set_option maxRecDepth 20000 in
set_option maxHeartbeats 8000000 in
theorem implOne_any (ls : List (List Int)) (l : List Int) (bs : List Bool) (rs : List (List OpT)) (m : List ResT) (ts : List (List UInt8)) (t : Nat) (v u x : Value) (w : World) (hp : PlanV w v ls l bs rs) (hr : RowR w u m) (hts : RowV w x (S ts)) (hpl : planA ls l bs rs = true) (hmb : m.length = bs.length) (htb : ts.length = bs.length) (ht : t < ls.length) (hxm : Sml m) (hxt : ∀ y ∈ ts, y.length ≤ 40) :
    Calls Tryz.prog 85 #[v, x, u, .int .i64 (t : Int)] w fun e w' => e = .returned (resV (oneM ls bs rs ts m t)) ∧ Below w.heap.size w w' := by
  have hbl := (plan_parts hpl).2.1
  have htb' : t < bs.length := by omega
  have htt : t < ts.length := by omega
  have HV := Lib.hid hp
  obtain ⟨nv, ov, sv, rv, rfl, h1, h2, h3, h4⟩ := hp
  obtain ⟨as0, cs, rfl, hs1, hs2, hats⟩ := h3.boolsW
  obtain ⟨an, cn, rfl, hn1, hn2, _⟩ := h1.lists
  obtain ⟨ao, co, rfl, ho1, ho2, _⟩ := h2.ints
  obtain ⟨ar, cr, rfl, hr1, hr2, _⟩ := h4.lists
  clear h1 h2 h3 h4
  have HR := Lib.hid hr
  obtain ⟨am, cm, rfl, hm1, hm2, _⟩ := hr.res
  clear hr
  have HT := Lib.hid hts
  obtain ⟨at0, ct, rfl, ht1, ht2, hatt⟩ := hts.texts
  clear hts
  unfold maxLen at hs2 hn2 ho2 hr2 hm2 ht2
  obtain ⟨gs, os, rfl, hgs, hcs⟩ := hats t htb'
  obtain ⟨gt, ot, rfl, hgt, hct⟩ := hatt t htt
  obtain ⟨wp, hwp⟩ : ∃ wp, wp = w.alloc (.cells #[.slice an ls.length cn, .slice ao l.length co, .slice (some ⟨gs, os, none⟩) bs.length cs, .slice ar rs.length cr] 42) := ⟨_, rfl⟩
  obtain ⟨wa, hwa⟩ : ∃ wa, wa = wp.alloc (.cells #[.string ⟨#[]⟩, .int .i64 0] 75) := ⟨_, rfl⟩
  have ep : wp.heap.size = w.heap.size + 1 := by rw [hwp]; simp
  have ea : wa.heap.size = w.heap.size + 2 := by rw [hwa]; simp [ep]
  have P0 : Hid (Blk4 wa w.heap.size 42 (.slice an ls.length cn) (.slice ao l.length co) (.slice (some ⟨gs, os, none⟩) bs.length cs) (.slice ar rs.length cr)) := by rw [hwa, hwp]; exact Blk4.new.old _
  have R0 : Hid (Blk2 wa (w.heap.size + 1) 75 (.string ⟨#[]⟩) (.int .i64 0)) := by rw [hwa, ← ep]; exact Blk2.new
  have HA : Hid (Below w.heap.size w wa) := by rw [hwa, hwp]; exact ((Below.refl w.heap.size w).alloc (Nat.le_refl _) _).alloc (by simp) _
  have HWA : Hid ((w.alloc (.cells #[.slice an ls.length cn, .slice ao l.length co, .slice (some ⟨gs, os, none⟩) bs.length cs, .slice ar rs.length cr] 42)).alloc (.cells #[.string ⟨#[]⟩, .int .i64 0] 75) = wa) := by rw [hwa, hwp]; rfl
  have hsz : w.heap.size < wa.heap.size := by omega
  have hsz1 : w.heap.size + 1 < wa.heap.size := by omega
  clear hwa hwp ep
  have hzb : (t : Int) < (bs.length : Int) := by omega
  have hzt : (t : Int) < (ts.length : Int) := by omega
  have HMK := Lib.hid (makeTask_of ls l bs rs m t _ _ wa (HV.out.below HA.out) (HR.out.below HA.out) hpl hmb ht hxm)
  have hxl : ts[t].length ≤ 40 := hxt _ (List.getElem_mem htt)
  have HO : Hid (oneM ls bs rs ts m t = if bs[t] then (ts[t], 0) else makeM ls rs m t) := by show _ = _; unfold oneM; rw [getD_at _ htb', getD_at _ htt]
  rw [HO.out]
  have hRB := R0.out
  obtain ⟨r0, r1⟩ := hRB.cells
  have z0 := hRB.soft 0
  have z1 := hRB.soft 1
  obtain ⟨c0, c1, c2, c3⟩ := P0.out.cells
  clear hats hatt hpl hmb hxm hxt HO hRB htb hbl
  generalize bs[t] = b at *
  generalize ts[t] = y at *
  generalize makeM ls rs m t = M at *
  obtain ⟨M1, M2⟩ := M
  rcases b with _ | _
  · go_enter Tryz.func85, Tryz.ntmps85
    go_wp2_with fail
    rw [HWA.out]
    unfold resV at HMK
    simp only at HMK
    refine HMK.out.mono ?_
    rintro e w1 ⟨rfl, hb1⟩
    have HB1 := Lib.hid hb1
    clear hb1 c0 c1 c2 c3 r0 r1 z0 z1
    have hRB := R0.out.below HB1.out hsz1
    have HRB := Lib.hid hRB
    obtain ⟨r0, r1⟩ := hRB.cells
    have z0 := hRB.soft 0
    have z1 := hRB.soft 1
    clear hRB
    go_wp2_with fail
    have hZ := (HRB.out.set0 (.string ⟨M1.toArray⟩)).set1 (.int .i64 M2)
    refine bodyPost_ret (results_cellR rfl rfl (load_res hZ.cells.1 hZ.cells.2)) rfl ?_
    exact ⟨by rfl, ((bth HA.out HB1.out (Nat.le_refl _)).setCell (p := ⟨w.heap.size + 1, 0, none⟩) (by show _ ≤ _ + 1; omega) _).setCell (p := ⟨w.heap.size + 1, 1, none⟩) (by show _ ≤ _ + 1; omega) _⟩
  · go_enter Tryz.func85, Tryz.ntmps85
    go_wp2_with fail
    rw [HWA.out]
    refine (clone_any y _ (by omega)).mono ?_
    rintro e w1 ⟨rfl, hb1⟩
    have HB1 := Lib.hid hb1
    clear hb1 c0 c1 c2 c3 r0 r1 z0 z1
    have hRB := R0.out.below HB1.out hsz1
    have HRB := Lib.hid hRB
    obtain ⟨r0, r1⟩ := hRB.cells
    have z0 := hRB.soft 0
    have z1 := hRB.soft 1
    clear hRB
    go_wp2_with fail
    have hZ := (HRB.out.set0 (.string ⟨y.toArray⟩)).set1 (.int .i64 0)
    refine bodyPost_ret (results_cellR rfl rfl (load_res hZ.cells.1 hZ.cells.2)) rfl ?_
    exact ⟨by rfl, ((bth HA.out HB1.out (Nat.le_refl _)).setCell (p := ⟨w.heap.size + 1, 0, none⟩) (by show _ ≤ _ + 1; omega) _).setCell (p := ⟨w.heap.size + 1, 1, none⟩) (by show _ ≤ _ + 1; omega) _⟩

end Go.Proofs.YtgolhfmmlanmlaaGreatDoor

/- Walks: copies of plans. -/
namespace Go.Proofs.YtgolhfmmlanmlaaGreatDoor
open Go.RowKit Pth

theorem results_cellP {fn : Func} {p : Tmp} {ty : TypeId} (h : fn.results = #[.cell p ty]) {tmps : Array Value} {w : World} {ad : Addr} {v : Value} (hp : tmps.getD p undef = .pointer (some ad)) (hl : (loadVar ty ad).run Tryz.prog w = .ok v w) :
    (results fn tmps).run Tryz.prog w = .ok v w := by
  have hp' : tmps[p]?.getD undef = .pointer (some ad) := by simpa using hp
  simp only [results, h]
  simp [hp', asAddr, hl]

set_option maxRecDepth 20000 in
set_option maxHeartbeats 4000000 in
theorem toPlan_any (ls : List (List Int)) (l : List Int) (bs : List Bool) (rs : List (List OpT)) (v : Value) (w : World) (hp : PlanV w v ls l bs rs) (hz : planZ ls l bs rs ≤ 2000000) :
    Calls Tryz.prog 10 #[v] w fun e w' => ∃ v', e = .returned v' ∧ PlanO w.heap.size w' v' ls l bs rs ∧ Below w.heap.size w w' := by
  obtain ⟨nv, ov, sv, rv, rfl, h1, h2, h3, h4⟩ := hp
  unfold planZ at hz
  have H1 := Lib.hid h1
  have H2 := Lib.hid h2
  have H3 := Lib.hid h3
  have H4 := Lib.hid h4
  obtain ⟨as0, cs, rfl, hs1, hs2, _⟩ := h3.boolsW
  obtain ⟨an, cn, rfl, hn1, hn2, _⟩ := h1.lists
  obtain ⟨ao, co, rfl, ho1, ho2, _⟩ := h2.ints
  obtain ⟨ar, cr, rfl, hr1, hr2, _⟩ := h4.lists
  clear h1 h2 h3 h4
  unfold maxLen at hs2 hn2 ho2 hr2
  obtain ⟨wp, hwp⟩ : ∃ wp, wp = w.alloc (.cells #[.slice an ls.length cn, .slice ao l.length co, .slice as0 bs.length cs, .slice ar rs.length cr] 29) := ⟨_, rfl⟩
  obtain ⟨wq, hwq⟩ : ∃ wq, wq = wp.alloc (.cells #[.slice none 0 0, .slice none 0 0, .slice none 0 0, .slice none 0 0] 42) := ⟨_, rfl⟩
  obtain ⟨wa, hwa⟩ : ∃ wa, wa = wq.alloc (.cells #[.slice none 0 0, .slice none 0 0, .slice none 0 0, .slice none 0 0] 42) := ⟨_, rfl⟩
  have ep : wp.heap.size = w.heap.size + 1 := by rw [hwp]; simp
  have eq : wq.heap.size = w.heap.size + 2 := by rw [hwq]; simp [ep]
  have eq' : wq.heap.size = w.heap.size + 1 + 1 := by omega
  have ea : wa.heap.size = w.heap.size + 3 := by rw [hwa]; simp [eq]
  have P0 : Hid (Blk4 wa w.heap.size 29 (.slice an ls.length cn) (.slice ao l.length co) (.slice as0 bs.length cs) (.slice ar rs.length cr)) := by
    rw [hwa, hwq, hwp]; exact (Blk4.new.old _).old _
  have R0 : Hid (Blk4 wa (w.heap.size + 1) 42 (.slice none 0 0) (.slice none 0 0) (.slice none 0 0) (.slice none 0 0)) := by
    rw [hwa, hwq, ← ep]; exact Blk4.new.old _
  have O0 : Hid (Blk4 wa (w.heap.size + 1 + 1) 42 (.slice none 0 0) (.slice none 0 0) (.slice none 0 0) (.slice none 0 0)) := by
    rw [hwa, ← eq']; exact Blk4.new
  have HA : Hid (Below w.heap.size w wa) := by
    rw [hwa, hwq, hwp]; exact (((Below.refl w.heap.size w).alloc (Nat.le_refl _) _).alloc (by simp) _).alloc (by simp; omega) _
  have HWA : Hid (((w.alloc (.cells #[.slice an ls.length cn, .slice ao l.length co, .slice as0 bs.length cs, .slice ar rs.length cr] 29)).alloc (.cells #[.slice none 0 0, .slice none 0 0, .slice none 0 0, .slice none 0 0] 42)).alloc (.cells #[.slice none 0 0, .slice none 0 0, .slice none 0 0, .slice none 0 0] 42) = wa) := by rw [hwa, hwq, hwp]; rfl
  have HG : Hid (GraphV wa (.agg #[.slice an ls.length cn, .slice ao l.length co]) ls l) := ⟨_, _, rfl, H1.out.below HA.out, H2.out.below HA.out⟩
  clear hwa hwq hwp ep eq eq'
  go_enter Tryz.func10, Tryz.ntmps10
  go_wp2_with fail
  rw [HWA.out]
  refine (toGraph_any ls l _ wa HG.out (by omega)).mono ?_
  rintro e w1 ⟨v1, rfl, hg1, hb1⟩
  obtain ⟨b1, d1, b2, d2, rfl⟩ := hg1.slices
  have P1 := Lib.hid (P0.out.below hb1 (by omega))
  have R1 := Lib.hid (R0.out.below hb1 (by omega))
  have O1 := O0.out.below hb1 (by omega)
  have HA1 := Lib.hid (HA.out.trans (hb1.mono HA.out.size))
  have hs1' := hb1.size
  have HG1 := Lib.hid hg1
  have c2 := P1.out.cells.2.2.1
  obtain ⟨o0, o1, _, _⟩ := O1.cells
  have f0 := O1.soft 0
  have f1 := O1.soft 1
  have O2 := Lib.hid ((O1.set0 (.slice b1 ls.length d1)).set1 (.slice b2 l.length d2))
  clear hb1 hg1 O1
  go_wp2_with fail
  clear o0 o1 f0 f1 c2
  -- the graph's two cells
  have n1 : w.heap.size + 1 + 1 < wa.heap.size := by omega
  have n0 : w.heap.size ≤ w.heap.size + 1 + 1 := by omega
  have n2 : w.heap.size ≠ w.heap.size + 1 + 1 := by omega
  have n3 : w.heap.size + 1 ≠ w.heap.size + 1 + 1 := by omega
  have HG2 := Lib.hid ((HG1.out.set (p := ⟨w.heap.size + 1 + 1, 0, none⟩) n1 (.slice b1 ls.length d1)).set (p := ⟨w.heap.size + 1 + 1, 1, none⟩) n1 (.slice b2 l.length d2))
  have HA2 := Lib.hid ((HA1.out.setCell (p := ⟨w.heap.size + 1 + 1, 0, none⟩) n0 (.slice b1 ls.length d1)).setCell (p := ⟨w.heap.size + 1 + 1, 1, none⟩) n0 (.slice b2 l.length d2))
  have P2 := Lib.hid ((P1.out.other (p := ⟨w.heap.size + 1 + 1, 0, none⟩) n2 (.slice b1 ls.length d1)).other (p := ⟨w.heap.size + 1 + 1, 1, none⟩) n2 (.slice b2 l.length d2))
  have R2 := Lib.hid ((R1.out.other (p := ⟨w.heap.size + 1 + 1, 0, none⟩) n3 (.slice b1 ls.length d1)).other (p := ⟨w.heap.size + 1 + 1, 1, none⟩) n3 (.slice b2 l.length d2))
  have hs2' : wa.heap.size ≤ ((w1.setCell ⟨w.heap.size + 1 + 1, 0, none⟩ (.slice b1 ls.length d1)).setCell ⟨w.heap.size + 1 + 1, 1, none⟩ (.slice b2 l.length d2)).heap.size := by simp; omega
  clear HG1 HA1 P1 R1
  generalize (w1.setCell ⟨w.heap.size + 1 + 1, 0, none⟩ (.slice b1 ls.length d1)).setCell ⟨w.heap.size + 1 + 1, 1, none⟩ (.slice b2 l.length d2) = x1 at *
  refine (toBoolS_any bs _ x1 (H3.out.below HA2.out) (by omega)).mono ?_
  rintro e w3 ⟨v3, rfl, hn3, hb3⟩
  obtain ⟨b3, d3, rfl⟩ := own_slice hn3
  have O3 := O2.out.below hb3 (by omega)
  have o2 := O3.cells.2.2.1
  have f2 := O3.soft 2
  have hs3 := hb3.size
  have c3 := (P2.out.below hb3 (by omega)).cells.2.2.2
  have HG3 := Lib.hid ((HG2.out.below hb3).set (p := ⟨w.heap.size + 1 + 1, 2, none⟩) n1 (.slice b3 bs.length d3))
  have HN3 := Lib.hid (own_setI (own_base hn3 hs2') (p := ⟨w.heap.size + 1 + 1, 2, none⟩) n1 (.slice b3 bs.length d3))
  have HA3 := Lib.hid ((HA2.out.trans (hb3.mono HA2.out.size)).setCell (p := ⟨w.heap.size + 1 + 1, 2, none⟩) n0 (.slice b3 bs.length d3))
  have P3 := Lib.hid ((P2.out.below hb3 (by omega)).other (p := ⟨w.heap.size + 1 + 1, 2, none⟩) n2 (.slice b3 bs.length d3))
  have R3 := Lib.hid ((R2.out.below hb3 (by omega)).other (p := ⟨w.heap.size + 1 + 1, 2, none⟩) n3 (.slice b3 bs.length d3))
  have Q3 := Lib.hid (O3.set2 (.slice b3 bs.length d3))
  have hs3' : wa.heap.size ≤ (w3.setCell ⟨w.heap.size + 1 + 1, 2, none⟩ (.slice b3 bs.length d3)).heap.size := by simp; omega
  clear hn3 hb3 O3 HG2 HA2 P2 R2 O2
  go_wp2_with fail
  clear o2 f2 c3
  generalize w3.setCell ⟨w.heap.size + 1 + 1, 2, none⟩ (.slice b3 bs.length d3) = x3 at *
  refine (toOpSS_any rs _ x3 (H4.out.below HA3.out) (by omega)).mono ?_
  rintro e w4 ⟨v4, so, rfl, hn4, hb4⟩
  obtain ⟨b4, d4, rfl⟩ := own_slice hn4.2.1
  have O4 := Q3.out.below hb4 (by omega)
  have o3 := O4.cells.2.2.2
  have f3 := O4.soft 3
  have hs4 := hb4.size
  have HG4 := Lib.hid ((HG3.out.below hb4).set (p := ⟨w.heap.size + 1 + 1, 3, none⟩) n1 (.slice b4 rs.length d4))
  have HN4 := Lib.hid (own_setI (own_below HN3.out hb4) (p := ⟨w.heap.size + 1 + 1, 3, none⟩) n1 (.slice b4 rs.length d4))
  have HR4 := Lib.hid ((hn4.base hs3').set (p := ⟨w.heap.size + 1 + 1, 3, none⟩) n1 (.slice b4 rs.length d4))
  have HA4 := Lib.hid ((HA3.out.trans (hb4.mono HA3.out.size)).setCell (p := ⟨w.heap.size + 1 + 1, 3, none⟩) n0 (.slice b4 rs.length d4))
  have R4 := Lib.hid ((R3.out.below hb4 (by omega)).other (p := ⟨w.heap.size + 1 + 1, 3, none⟩) n3 (.slice b4 rs.length d4))
  have Q4 := Lib.hid (O4.set3 (.slice b4 rs.length d4))
  obtain ⟨k0, k1, k2, k3⟩ := R4.out.cells
  have z0 := R4.out.soft 0
  have z1 := R4.out.soft 1
  have z2 := R4.out.soft 2
  have z3 := R4.out.soft 3
  obtain ⟨q0, q1, q2, q3⟩ := Q4.out.cells
  clear hn4 hb4 O4 HG3 HN3 HA3 P3 R3 Q3
  go_wp2_with fail
  have Z := (((R4.out.set0 (.slice b1 ls.length d1)).set1 (.slice b2 l.length d2)).set2 (.slice b3 bs.length d3)).set3 (.slice b4 rs.length d4)
  refine bodyPost_ret (results_cellP rfl rfl (load_plan Z)) rfl ?_
  have e1 : w.heap.size ≤ wa.heap.size := by omega
  have e2 : w.heap.size + 1 < wa.heap.size := by omega
  have e3 : w.heap.size ≤ w.heap.size + 1 := by omega
  refine ⟨_, rfl, ⟨_, _, _, _, so, rfl, ?_, ?_, ?_⟩, ?_⟩
  · exact ((((HG4.out.set (p := ⟨w.heap.size + 1, 0, none⟩) e2 _).set (p := ⟨w.heap.size + 1, 1, none⟩) e2 _).set (p := ⟨w.heap.size + 1, 2, none⟩) e2 _).set (p := ⟨w.heap.size + 1, 3, none⟩) e2 _).base e1
  · exact own_base (own_setI (own_setI (own_setI (own_setI HN4.out (p := ⟨w.heap.size + 1, 0, none⟩) e2 _) (p := ⟨w.heap.size + 1, 1, none⟩) e2 _) (p := ⟨w.heap.size + 1, 2, none⟩) e2 _) (p := ⟨w.heap.size + 1, 3, none⟩) e2 _) e1
  · exact ((((HR4.out.set (p := ⟨w.heap.size + 1, 0, none⟩) e2 _).set (p := ⟨w.heap.size + 1, 1, none⟩) e2 _).set (p := ⟨w.heap.size + 1, 2, none⟩) e2 _).set (p := ⟨w.heap.size + 1, 3, none⟩) e2 _).base e1
  · exact (((HA4.out.setCell (p := ⟨w.heap.size + 1, 0, none⟩) e3 _).setCell (p := ⟨w.heap.size + 1, 1, none⟩) e3 _).setCell (p := ⟨w.heap.size + 1, 2, none⟩) e3 _).setCell (p := ⟨w.heap.size + 1, 3, none⟩) e3 _

theorem PlanO.slices {B : Nat} {w : World} {v : Value} {ls : List (List Int)} {l : List Int} {bs : List Bool} {rs : List (List OpT)} (h : PlanO B w v ls l bs rs) :
    ∃ a c a2 c2 a3 c3 a4 c4, v = .agg #[.slice a ls.length c, .slice a2 l.length c2, .slice a3 bs.length c3, .slice a4 rs.length c4] := by
  obtain ⟨nv, ov, sv, rv, so, hv, h1, h2, h3⟩ := h
  obtain ⟨a, c, a2, c2, he⟩ := h1.slices
  simp only [Value.agg.injEq, Array.mk.injEq, List.cons.injEq, and_true] at he
  obtain ⟨rfl, rfl⟩ := he
  obtain ⟨a3, c3, rfl⟩ := own_slice h2
  obtain ⟨a4, c4, rfl⟩ := own_slice h3.2.1
  exact ⟨a, c, a2, c2, a3, c3, a4, c4, hv⟩
end Go.Proofs.YtgolhfmmlanmlaaGreatDoor

/- Walks: the laws' marks in ops. -/
namespace Go.Proofs.YtgolhfmmlanmlaaGreatDoor
open Go.RowKit Pth

/-- The ops that are marks, from k on. -/
def marksO (k : Nat) (n : Nat) : List OpT := (List.range n).map (fun (i : Nat) => (((k + i * 3 : Nat) : Int), ((k + i * 3 + 1 : Nat) : Int), markT (k + i * 3 + 2)))
theorem marksO_len (k n : Nat) : (marksO k n).length = n := by simp [marksO]
theorem marksO_snoc (k n : Nat) : marksO k (n + 1) = marksO k n ++ [(((k + n * 3 : Nat) : Int), ((k + n * 3 + 1 : Nat) : Int), markT (k + n * 3 + 2))] := by simp [marksO, List.range_succ]
theorem set_kindO (a : List OpT) (k : Nat) (ha : a.length = k) (x p q : Int) (t : List UInt8) (rest : List OpT) :
    (OC a ++ OC ((p, q, t) :: rest)).set (k * 3) (.int .i64 x) = OC a ++ OC ((x, q, t) :: rest) := by
  have hl : (OC a).length = k * 3 := by rw [OC_len, ha]
  rw [List.set_append_right _ _ (by omega), hl, Nat.sub_self]
  rfl
theorem set_numO (a : List OpT) (k : Nat) (ha : a.length = k) (x p q : Int) (t : List UInt8) (rest : List OpT) :
    (OC a ++ OC ((p, q, t) :: rest)).set (k * 3 + 1) (.int .i64 x) = OC a ++ OC ((p, x, t) :: rest) := by
  have hl : (OC a).length = k * 3 := by rw [OC_len, ha]
  rw [List.set_append_right _ _ (by omega), hl, show k * 3 + 1 - k * 3 = 1 by omega]
  rfl
theorem set_textO (a : List OpT) (k : Nat) (ha : a.length = k) (p q : Int) (x t : List UInt8) (rest : List OpT) :
    (OC a ++ OC ((p, q, t) :: rest)).set (k * 3 + 2) (.string ⟨x.toArray⟩) = OC (a ++ [(p, q, x)]) ++ OC rest := by
  have hl : (OC a).length = k * 3 := by rw [OC_len, ha]
  rw [List.set_append_right _ _ (by omega), hl, show k * 3 + 2 - k * 3 = 2 by omega, OC_append]
  simp [OC, opC]
theorem mark_l (j : Nat) (i : Int) (h : (j : Int) = i) (hk1 : j ≤ 8000000) (h1 : 1 ≤ j) (w : World) : Calls Tryz.prog 60 #[.int .i64 i] w fun e w' => e = .returned (.string ⟨(markT j).toArray⟩) ∧ Below w.heap.size w w' := by
  subst h
  exact markText_any j w hk1 h1

/-- The ops hold the marks, and nothing but their own block has turned. -/
def MarkedO (v : Value) (k : Nat) (n : Nat) (w : World) (e : Ending) (w' : World) : Prop :=
  e = .returned (.int .i64 ((k : Int) + (n : Int) * 3)) ∧ w.grownBy w' v.ownBlock

set_option maxRecDepth 20000 in
set_option maxHeartbeats 1000000 in
theorem markOpS_any (l : List OpT) (k : Nat) (B : Nat) (v : Value) (w : World) (hown : w.ownsRow B 141 3 v l.length (OC l)) (hl : l.length ≤ 1100000) (hk : k ≤ 4000000) (hk1 : 1 ≤ k) :
    Calls Tryz.prog 94 #[v, .int .i64 (k : Int)] w (MarkedO v k l.length w) := by
  have HW := Lib.hid hown
  obtain ⟨a, cap, rfl⟩ := own_sliceG hown
  clear hown
  go_enter Tryz.func94, Tryz.ntmps94
  go_wp2_with fail
  go_loopw [1, 5] (fun q i wr => ∃ j : Nat, j ≤ l.length ∧ q = .int .i64 ((k : Int) + (j : Int) * 3) ∧ i = .int .i64 j ∧ wr.ownsRow B 141 3 (.slice a l.length cap) l.length (OC (marksO k j) ++ OC (l.drop j)) ∧ w.grownBy wr (Value.slice a l.length cap).ownBlock) (fun _ i _ => l.length - (intOf i).toNat)
  case atStart => exact ⟨0, Nat.zero_le _, by simp, rfl, HW.out, grown_refl _ _⟩
  case round =>
    clear HW
    obtain ⟨j, hj, rfl, rfl, hown, hg⟩ := hrel
    by_cases hlt : j < l.length
    · obtain ⟨g, c2, hv⟩ : ∃ g c2, (Value.slice a l.length cap) = .slice (some ⟨g, 0, none⟩) l.length c2 := by
        rcases hown.2 with ⟨_, h0⟩ | ⟨g, c2, cur, hv, _⟩
        · omega
        · exact ⟨g, c2, hv⟩
      injection hv with hv1 hv2 hv3
      subst hv1
      have hc4 : l.length ≤ cap := by
        rcases hown.2 with ⟨_, h0⟩ | ⟨g, c2, cur, hv, _, _, h5, _⟩
        · omega
        · injection hv with _ _ hv3; omega
      have HC := Lib.hid (fun W => mark_l (k + j * 3 + 2) ((k : Int) + (j : Int) * 3 + 1 + 1) (by omega) (by omega) (by omega) W)
      rw [List.drop_eq_getElem_cons hlt, show l[j] = (l[j].1, l[j].2.1, l[j].2.2) from rfl] at hown
      have HE := Lib.hid (marksO_snoc k j)
      rw [show (((k + j * 3 : Nat) : Int)) = (k : Int) + (j : Int) * 3 by omega, show (((k + j * 3 + 1 : Nat) : Int)) = (k : Int) + (j : Int) * 3 + 1 by omega] at HE
      have ha := marksO_len k j
      have HG := Lib.hid hg
      have hfz := hown.frozenAt (j * 3)
      have hcz : wr.cell? ⟨g, j * 3, none⟩ = some (.int .i64 l[j].1) := by rw [hown.cellAt (j * 3) (by omega), (get_three (marksO k j) j ha _ _).1]
      have hst := hown.stored (j * 3) (.int .i64 ((k : Int) + (j : Int) * 3))
      rw [set_kindO (marksO k j) j ha] at hst
      have hfz1 := hst.1.frozenAt (j * 3 + 1)
      have hcz1 : (wr.setCell ⟨g, j * 3, none⟩ (.int .i64 ((k : Int) + (j : Int) * 3))).cell? ⟨g, j * 3 + 1, none⟩ = some (.int .i64 l[j].2.1) := by rw [hst.1.cellAt (j * 3 + 1) (by omega), (get_three (marksO k j) j ha _ _).2.1]
      have hst1 := hst.1.stored (j * 3 + 1) (.int .i64 ((k : Int) + (j : Int) * 3 + 1))
      rw [set_numO (marksO k j) j ha] at hst1
      have HN := Lib.hid hst1.1
      have HG1 := Lib.hid (grown_trans (grown_trans HG.out hst.2) hst1.2)
      clear hown hg hv2 hv3 hst hst1 HG
      generalize l[j].1 = p at hcz
      generalize l[j].2.1 = q at hcz1
      generalize l[j].2.2 = t at HN
      generalize markT (k + j * 3 + 2) = x at HC HE
      go_wp2_with fail
      generalize (wr.setCell ⟨g, j * 3, none⟩ (.int .i64 ((k : Int) + (j : Int) * 3))).setCell ⟨g, j * 3 + 1, none⟩ (.int .i64 ((k : Int) + (j : Int) * 3 + 1)) = w2 at HN HG1
      refine (HC.out _).mono ?_
      rintro e w3 ⟨rfl, hb3⟩
      have HN3 := Lib.hid (own_belowG HN.out hb3)
      have hfz2 := HN3.out.frozenAt (j * 3 + 2)
      have hcz2 : w3.cell? ⟨g, j * 3 + 2, none⟩ = some (.string ⟨t.toArray⟩) := by rw [HN3.out.cellAt (j * 3 + 2) (by omega), (get_three (marksO k j) j ha _ _).2.2]
      have hst := HN3.out.stored (j * 3 + 2) (.string ⟨x.toArray⟩)
      rw [set_textO (marksO k j) j ha, ← HE.out] at hst
      have HN4 := Lib.hid hst.1
      have HG4 := Lib.hid (grown_trans (grown_trans HG1.out (below_grown hb3)) hst.2)
      clear hst hb3 HN HN3 HG1 hcz hfz hcz1 hfz1 ha
      go_wp2_with fail
      go_roundw
      case rel => exact ⟨j + 1, by omega, by go_num, by go_num, HN4.out, HG4.out⟩
      case measure => simp [intOf]; omega
    · obtain rfl : j = l.length := by omega
      have HG := Lib.hid hg
      clear hown hg
      go_wp2_with fail
      go_ret
      exact ⟨rfl, HG.out⟩

end Go.Proofs.YtgolhfmmlanmlaaGreatDoor

/- Walks: the laws' marks in graphs, and whether they are held. -/
namespace Go.Proofs.YtgolhfmmlanmlaaGreatDoor
open Go.RowKit Pth

/-- The marks from k on, in lists. -/
def marksL : Nat → List (List Int) → List (List Int)
  | _, [] => []
  | k, l :: t => marks k l.length :: marksL (k + l.length) t
theorem marksL_len (k : Nat) (ls : List (List Int)) : (marksL k ls).length = ls.length := by
  induction ls generalizing k with
  | nil => rfl
  | cons l t ih => rw [marksL, List.length_cons, List.length_cons, ih]
theorem marksL_snoc (k : Nat) (ls : List (List Int)) (l : List Int) : marksL k (ls ++ [l]) = marksL k ls ++ [marks ((k + total ls : Nat) : Int) l.length] := by
  induction ls generalizing k with
  | nil => simp [marksL, total]
  | cons x t ih =>
    rw [List.cons_append, marksL, marksL, ih, List.cons_append]
    have : k + x.length + total t = k + total (x :: t) := by simp [total]; omega
    rw [this]
theorem marksL_next {k : Nat} {ls : List (List Int)} {j : Nat} (hj : j < ls.length) : marksL k (ls.take (j + 1)) = marksL k (ls.take j) ++ [marks ((k + total (ls.take j) : Nat) : Int) ls[j].length] := by
  rw [List.take_succ_eq_append_getElem hj, marksL_snoc]
theorem marksL_total (k : Nat) (ls : List (List Int)) : total (marksL k ls) = total ls := by
  induction ls generalizing k with
  | nil => rfl
  | cons x t ih => have := ih (k + x.length); simp only [total, marksL, List.map_cons, List.sum_cons, marks_len] at this ⊢; omega
theorem marksL_at {k : Nat} {ls : List (List Int)} {j : Nat} (hj : j < ls.length) : (marksL k ls)[j]'(by rw [marksL_len]; exact hj) = marks ((k + total (ls.take j) : Nat) : Int) ls[j].length := by
  induction ls generalizing k j with
  | nil => simp at hj
  | cons x t ih =>
    cases j with
    | zero => simp [marksL, total]
    | succ j =>
      simp only [marksL, List.getElem_cons_succ]
      rw [ih (by simpa using hj)]
      have : k + x.length + total (t.take j) = k + total ((x :: t).take (j + 1)) := by simp [total]; omega
      rw [this]

theorem zip_split {sl : List Value} {M ls : List (List Int)} {j : Nat} (hs : sl.length = ls.length) (hM : M.length = j) (hj : j < ls.length) :
    sl.zip (M ++ ls.drop j) = (sl.take j).zip M ++ (sl[j]'(by omega), ls[j]) :: (sl.drop (j + 1)).zip (ls.drop (j + 1)) := by
  have e : sl = sl.take j ++ sl[j]'(by omega) :: sl.drop (j + 1) := by rw [← List.drop_eq_getElem_cons (by omega), List.take_append_drop]
  conv => lhs; rw [e, List.drop_eq_getElem_cons hj]
  rw [List.zip_append (by rw [List.length_take]; omega), List.zip_cons_cons]
theorem zip_join {sl : List Value} {M ls : List (List Int)} {j : Nat} {x : List Int} (hs : sl.length = ls.length) (hM : M.length = j) (hj : j < ls.length) :
    (sl.take j).zip M ++ (sl[j]'(by omega), x) :: (sl.drop (j + 1)).zip (ls.drop (j + 1)) = sl.zip ((M ++ [x]) ++ ls.drop (j + 1)) := by
  have e : sl = sl.take j ++ sl[j]'(by omega) :: sl.drop (j + 1) := by rw [← List.drop_eq_getElem_cons (by omega), List.take_append_drop]
  conv => rhs; rw [e]
  rw [List.append_assoc, List.zip_append (by rw [List.length_take]; omega), List.singleton_append, List.zip_cons_cons]
/-- A list of another type stays. -/
theorem own_grownL {w w' : World} {B B' e n : Nat} {v : Value} {xs : List Value} {L : List (Value × List Int)} (h : w.ownsRow B e 1 v n xs) (he : e ≠ 3) (hl : Lists B' w L) (hg : GrownL w w' L) : w'.ownsRow B e 1 v n xs := by
  refine ⟨h.1, ?_⟩
  rcases h.2 with h0 | ⟨g, cap, cur, hv, hB, hh, r⟩
  · exact .inl h0
  · refine .inr ⟨g, cap, cur, hv, hB, (hg.block g (lt_of_block hh) (fun p hp hi => own_typesI h (hl.1 p hp) he g (by rw [hv]; rfl) hi)).trans hh, r⟩

theorem markIntS_l {l : List Int} {k B : Nat} {i r : Int} {v : Value} {w : World} (hi : (k : Int) = i) (hr : r = (k : Int) + (l.length : Int)) (hown : w.ownsRow B 3 1 v l.length (I l)) (hl : l.length ≤ 2000000) (hk : k ≤ 2000000) :
    Calls Tryz.prog 29 #[v, .int .i64 i] w fun e w' => e = .returned (.int .i64 r) ∧ w'.ownsRow B 3 1 v l.length (I (marks (k : Int) l.length)) ∧ w.grownBy w' v.ownBlock := by
  subst hi hr
  exact markIntS_any l k B v w hown hl hk
theorem heldIntS_l {k n : Nat} {i r : Int} {v : Value} {w : World} (hi : (k : Int) = i) (hr : r = (k : Int) + (n : Int)) (hrow : RowV w v (I (marks (k : Int) n))) (hn : n ≤ 2000000) (hk : k ≤ 2000000) :
    Calls Tryz.prog 30 #[v, .int .i64 i] w fun e w' => e = .returned (.int .i64 r) ∧ Below w.heap.size w w' := by
  subst hi hr
  exact heldIntS_any k n v w hrow hn hk

/-- The lists hold the marks, and nothing but their blocks has turned. -/
def MarkedN (B : Nat) (sl : List Value) (ls : List (List Int)) (R : List (Value × List Int)) (k : Nat) (w : World) (e : Ending) (w' : World) : Prop :=
  e = .returned (.int .i64 ((k + total ls : Nat) : Int)) ∧ Lists B w' (sl.zip (marksL k ls) ++ R) ∧ GrownL w w' (sl.zip ls)

set_option maxHeartbeats 2000000 in
theorem markIntSS_any (ls : List (List Int)) (R : List (Value × List Int)) (k B B' : Nat) (v : Value) (sl : List Value) (w : World) (hs : sl.length = ls.length) (hout : w.ownsRow B' 23 1 v ls.length sl) (hL : Lists B w (sl.zip ls ++ R)) (hl : ls.length + total ls ≤ 1500000) (hk : k ≤ 100000) :
    Calls Tryz.prog 93 #[v, .int .i64 (k : Int)] w (MarkedN B sl ls R k w) := by
  have HW := Lib.hid hL
  have HU := Lib.hid hout
  obtain ⟨a, cap, rfl⟩ := own_slice hout
  have hcap : ls.length ≤ cap ∧ cap ≤ maxLen := by obtain ⟨a', c', he, h1, h2, _⟩ := RowV.of_own hout; injection he with _ _ he; omega
  obtain ⟨hc1, hc2⟩ := hcap
  unfold maxLen at hc2
  clear hL hout
  go_enter Tryz.func93, Tryz.ntmps93
  go_wp2_with fail
  go_loopw [1, 5] (fun q i wr => ∃ j : Nat, j ≤ ls.length ∧ q = .int .i64 ((k + total (ls.take j) : Nat) : Int) ∧ i = .int .i64 j ∧ Lists B wr (sl.zip (marksL k (ls.take j) ++ ls.drop j) ++ R) ∧ GrownL w wr (sl.zip ls)) (fun _ i _ => ls.length - (intOf i).toNat)
  case atStart => exact ⟨0, Nat.zero_le _, by simp [total], rfl, by simpa [marksL] using HW.out, GrownL.refl _ _⟩
  case round =>
    obtain ⟨j, hj, rfl, rfl, hL, hg⟩ := hrel
    by_cases hlt : j < ls.length
    · have hout := own_grownL HU.out (by decide) HW.out.left hg
      have hsj : j < sl.length := by omega
      obtain ⟨a', c', he', _, _, hat⟩ := RowV.of_own hout
      injection he' with he1 he2 he3
      subst he1 he3
      obtain ⟨g, o, rfl, hgz, hcell⟩ := hat j hsj
      have hM : (marksL k (ls.take j)).length = j := by rw [marksL_len, List.length_take]; omega
      rw [zip_split hs hM hlt, List.append_assoc, List.cons_append] at hL
      have hone := hL.1 (sl[j], ls[j]) (by simp)
      have htl := total_at hlt
      have htk := total_le (ls := ls) (k := j)
      have HC := Lib.hid (markIntS_l (l := ls[j]) (k := k + total (ls.take j)) (i := ((k + total (ls.take j) : Nat) : Int)) (r := ((k + total (ls.take (j + 1)) : Nat) : Int)) rfl (by have := total_next hlt; omega) hone (by omega) (by omega))
      have HT : Hid (∀ w1, w1.ownsRow B 3 1 sl[j] ls[j].length (I (marks ((k + total (ls.take j) : Nat) : Int) ls[j].length)) → wr.grownBy w1 (sl[j]).ownBlock → Lists B w1 (sl.zip (marksL k (ls.take (j + 1)) ++ ls.drop (j + 1)) ++ R) ∧ GrownL w w1 (sl.zip ls)) := by
        intro w1 h1 h2
        refine ⟨?_, hg.one h2 (zip_get hsj hlt)⟩
        have := hL.turn (v' := sl[j]) (l' := marks ((k + total (ls.take j) : Nat) : Int) ls[j].length) h2 (by rw [marks_len]; exact h1) (fun b hb => .inl hb)
        rw [← List.cons_append, ← List.append_assoc, zip_join hs hM hlt, ← marksL_next hlt] at this
        exact this
      obtain ⟨a2, c2, hv2⟩ := own_slice hone
      have h63 : (k + total (ls.take (j + 1)) : Nat) ≤ 3000000 := by have := total_le (ls := ls) (k := j + 1); omega
      clear hL hone hat hg hout he2
      simp only at hv2
      generalize hsl : sl[j] = u at hcell HC HT hv2
      subst hv2
      generalize ls[j].length = n1 at *
      generalize k + total (ls.take j) = q0 at *
      generalize hq1 : k + total (ls.take (j + 1)) = q1 at *
      have HQ := Lib.hid hq1
      clear hsl hq1
      go_wp2_with fail
      refine HC.out.mono ?_
      rintro e w1 ⟨rfl, h1, h2⟩
      obtain ⟨h3, h4⟩ := HT.out w1 h1 h2
      have H3 := Lib.hid h3
      have H4 := Lib.hid h4
      clear h1 h2 h3 h4 HT HC
      go_wp2_with fail
      go_roundw
      case rel => exact ⟨j + 1, by omega, by rw [HQ.out], by go_num, H3.out, H4.out⟩
      case measure => simp [intOf]; omega
    · obtain rfl : j = ls.length := by omega
      rw [List.take_length, List.drop_length, List.append_nil] at hL
      rw [List.take_length]
      have HL := Lib.hid hL
      have HG := Lib.hid hg
      clear hL hg
      go_wp2_with fail
      go_ret
      exact ⟨rfl, HL.out, HG.out⟩

/-- Only blocks between two have turned. -/
structure OnlyIn (B C : Nat) (w w' : World) : Prop where
  below : Below B w w'
  above : ∀ i, C ≤ i → i < w.heap.size → w'.heap[i]? = w.heap[i]?
  kept : ∀ (i : Nat) (cs : Array Value) (e : Nat), e ≠ 3 → w.heap[i]? = some (Obj.cells cs e (0, 0)) → w'.heap[i]? = w.heap[i]?
theorem GraphO.only {B C D : Nat} {w w' : World} {v : Value} {ls : List (List Int)} {l : List Int} (h : GraphO D w v ls l) (hg : OnlyIn B C w w') (hD : C ≤ D) : GraphO D w' v ls l := by
  obtain ⟨nv, ov, sl, hv, h1, h2, h3⟩ := h
  have one : ∀ {e n : Nat} {x : Value} {xs : List Value}, w.ownsRow D e 1 x n xs → w'.ownsRow D e 1 x n xs := by
    intro e n x xs h
    refine ⟨h.1, ?_⟩
    rcases h.2 with h0 | ⟨g, cap, cur, hv, hB, hh, r⟩
    · exact .inl h0
    · exact .inr ⟨g, cap, cur, hv, hB, (hg.above g (by omega) (lt_of_block hh)).trans hh, r⟩
  exact ⟨nv, ov, sl, hv, h1, one h2, fun p hp => one (h3.1 p hp), h3.2⟩
theorem own_only {B C D e n : Nat} {w w' : World} {v : Value} {xs : List Value} (h : w.ownsRow D e 1 v n xs) (hg : OnlyIn B C w w') (hD : C ≤ D) : w'.ownsRow D e 1 v n xs := by
  refine ⟨h.1, ?_⟩
  rcases h.2 with h0 | ⟨g, cap, cur, hv, hB, hh, r⟩
  · exact .inl h0
  · exact .inr ⟨g, cap, cur, hv, hB, (hg.above g (by omega) (lt_of_block hh)).trans hh, r⟩
theorem Blk2.only {B C b t : Nat} {w w' : World} {x y : Value} (h : Blk2 w b t x y) (hg : OnlyIn B C w w') (hb : b < B ∨ C ≤ b) : Blk2 w' b t x y := by
  rcases hb with hb | hb
  · exact h.below hg.below hb
  · exact (hg.above b hb (lt_of_block h)).trans h

theorem Blk2.kept {B C b t : Nat} {w w' : World} {x y : Value} (h : Blk2 w b t x y) (hg : OnlyIn B C w w') (ht : t ≠ 3) : Blk2 w' b t x y := (hg.kept b _ t ht h).trans h
/-- How many numbers a graph has. -/
def totalG (ls : List (List Int)) (l : List Int) : Nat := total ls + l.length
theorem GrownL.more {w w1 : World} {L M : List (Value × List Int)} (h : GrownL w w1 L) (hs : ∀ p ∈ L, p ∈ M) : GrownL w w1 M :=
  ⟨h.os, h.tape, h.output, h.size, fun i hi hne => h.block i hi (fun p hp => hne p (hs p hp))⟩

set_option maxRecDepth 20000 in
set_option maxHeartbeats 4000000 in
theorem markGraph_any (ls : List (List Int)) (l : List Int) (k B : Nat) (v : Value) (w0 w : World) (h0 : GraphO B w0 v ls l) (hb0 : Below w0.heap.size w0 w) (hB : B ≤ w0.heap.size) (hl : ls.length + total ls + l.length ≤ 1500000) (hk : k ≤ 1000) :
    Calls Tryz.prog 57 #[v, .int .i64 (k : Int)] w fun e w' => e = .returned (.int .i64 ((k + totalG ls l : Nat) : Int)) ∧ GraphO B w' v (marksL k ls) (marks ((k + total ls : Nat) : Int) l.length) ∧ OnlyIn B w0.heap.size w w' := by
  obtain ⟨nv, ov, sl, rfl, hs, hn, hL⟩ := h0
  have hlt : ∀ p ∈ sl.zip ls ++ [(ov, l)], ∀ i, p.1.ownBlock = some i → B ≤ i ∧ i < w0.heap.size := fun p hp i hi => (hL.1 p hp).lt i hi
  have HLT := Lib.hid hlt
  have hnw := own_below hn hb0
  have hLw := hL.below hb0
  obtain ⟨an, cn, rfl⟩ := own_slice hn
  obtain ⟨ao, co, hov⟩ := own_slice (hL.1 (ov, l) (List.mem_append.2 (.inr (List.mem_singleton.2 rfl))))
  simp only at hov
  subst hov
  obtain ⟨wa, hwa⟩ : ∃ wa, wa = w.alloc (.cells #[.slice an ls.length cn, .slice ao l.length co] 39) := ⟨_, rfl⟩
  have P0 : Hid (Blk2 wa w.heap.size 39 (.slice an ls.length cn) (.slice ao l.length co)) := by rw [hwa]; exact Blk2.new
  have hAw : Below w.heap.size w wa := by rw [hwa]; exact (Below.refl w.heap.size w).alloc (Nat.le_refl _) _
  have HA := Lib.hid hAw
  have hsa : wa.heap.size = w.heap.size + 1 := by rw [hwa]; simp
  have hsw : w0.heap.size ≤ w.heap.size := hb0.size
  have HN := Lib.hid (own_below hnw hAw)
  have HL := Lib.hid (hLw.below hAw)
  have HWA := Lib.hid hwa
  have HC := Lib.hid (markIntSS_any ls [(.slice ao l.length co, l)] k B B _ sl wa hs HN.out HL.out (by omega) (by omega))
  have hpb : ∀ (L : List (Value × List Int)) (x y : World), GrownL x y L → (∀ p ∈ L, p ∈ sl.zip ls ++ [(.slice ao l.length co, l)]) → w.heap.size < x.heap.size → x.heap[w.heap.size]? = y.heap[w.heap.size]? := by
    intro L x y hg hm hx
    refine (hg.block w.heap.size hx (fun p hp hi => ?_)).symm
    have := (HLT.out p (hm p hp) _ hi).2
    omega
  have HPB := Lib.hid hpb
  clear hlt hnw hLw hn hL hAw hwa hpb hb0
  go_enter Tryz.func57, Tryz.ntmps57
  go_wp2_with fail
  rw [← HWA.out]
  refine HC.out.mono ?_
  rintro e w1 ⟨rfl, hL1, hg1⟩
  have hm1 : ∀ p ∈ sl.zip ls, p ∈ sl.zip ls ++ [(Value.slice ao l.length co, l)] := fun p hp => List.mem_append.2 (.inl hp)
  have P1 := Lib.hid (show Blk2 w1 w.heap.size 39 (.slice an ls.length cn) (.slice ao l.length co) from (HPB.out _ _ _ hg1 hm1 (by omega)).symm.trans P0.out)
  have hn1 := own_grownL HN.out (by decide) HL.out.left hg1
  have c1 := P1.out.cells.2
  have hone := hL1.1 (.slice ao l.length co, l) (List.mem_append.2 (.inr (List.mem_singleton.2 rfl)))
  have HC2 := Lib.hid (markIntS_l (l := l) (k := k + total ls) (i := ((k + total ls : Nat) : Int)) (r := ((k + totalG ls l : Nat) : Int)) rfl (by unfold totalG; omega) hone (by omega) (by omega))
  have HG1 := Lib.hid (hg1.more hm1)
  have HL1 := Lib.hid hL1
  have HN1 := Lib.hid hn1
  clear hL1 hg1 hn1 hone hm1 HC
  generalize hq : k + total ls = q at *
  have HQ := Lib.hid hq
  clear hq
  go_wp2_with fail
  refine HC2.out.mono ?_
  rintro e w2 ⟨rfl, ho2, hg2⟩
  have HF : Hid (GraphO B w2 (.agg #[.slice an ls.length cn, .slice ao l.length co]) (marksL k ls) (marks (q : Int) l.length) ∧ OnlyIn B w0.heap.size w w2) := by
    have hL2 := HL1.out.turn (L := sl.zip (marksL k ls)) (M := []) (v' := .slice ao l.length co) (l' := marks (q : Int) l.length) hg2 (by rw [marks_len]; exact ho2) (fun b hb => .inl hb)
    have hg := HG1.out.one hg2 (l := l) (List.mem_append.2 (.inr (List.mem_singleton.2 rfl)))
    have hml := marksL_len k ls
    refine ⟨⟨_, _, sl, rfl, by rw [hml]; exact hs, ?_, hL2⟩, ?_, fun i hi hiw => ?_, fun i cs e he hi => ?_⟩
    · rw [hml]
      exact own_apartI HN1.out hg2 (fun i hi hi' => own_typesI HN1.out (HL1.out.1 (.slice ao l.length co, l) (List.mem_append.2 (.inr (List.mem_singleton.2 rfl)))) (by decide) i hi' hi)
    · have := hg.below HL.out (by omega)
      exact HA.out.mono (by omega) |>.trans this
    · have h1 := hg.block i (by omega) (fun p hp hpi => by have := (HLT.out p hp i hpi).2; omega)
      exact h1.trans (HA.out.block i hiw)
    · have hiw := lt_of_block hi
      have hi' := (HA.out.block i hiw).trans hi
      have h1 := hg.block i (by omega) (fun p hp hpi => by
        rcases (HL.out.1 p hp).2 with ⟨hv, _⟩ | ⟨g, cap, cur, hv, _, hg', _⟩
        · rw [hv] at hpi; simp [Value.ownBlock] at hpi
        · rw [hv] at hpi
          simp only [Value.ownBlock, Option.some.injEq] at hpi
          subst hpi
          rw [hi'] at hg'
          simp at hg'
          exact he hg'.2)
      exact h1.trans (HA.out.block i hiw)
  clear ho2 hg2
  go_wp2_with fail
  go_ret
  exact ⟨rfl, by rw [HQ.out]; exact HF.out.1, HF.out.2⟩

end Go.Proofs.YtgolhfmmlanmlaaGreatDoor

/- Walks: the laws' marks in plans. -/
namespace Go.Proofs.YtgolhfmmlanmlaaGreatDoor
open Go.RowKit Pth

/-- Only blocks between two have turned, whatever they hold. -/
structure OnlyB (B C : Nat) (w w' : World) : Prop where
  below : Below B w w'
  above : ∀ i, C ≤ i → i < w.heap.size → w'.heap[i]? = w.heap[i]?
theorem OnlyB.trans {B C : Nat} {a b c : World} (h : OnlyB B C a b) (k : OnlyB B C b c) : OnlyB B C a c :=
  ⟨h.below.trans k.below, fun i hi hl => (k.above i hi (Nat.lt_of_lt_of_le hl h.below.size)).trans (h.above i hi hl)⟩
theorem OnlyB.of_below {B C : Nat} {w w' : World} (h : Below w.heap.size w w') (hB : B ≤ w.heap.size) : OnlyB B C w w' := ⟨h.mono hB, fun i _ hl => h.block i hl⟩
theorem OnlyB.of_only {B C : Nat} {w w' : World} (h : OnlyIn B C w w') : OnlyB B C w w' := ⟨h.below, h.above⟩
theorem OnlyB.of_grown {B C : Nat} {w w' : World} {r : Option Nat} (h : w.grownBy w' r) (hr : ∀ i, r = some i → B ≤ i ∧ i < C) (hB : B ≤ w.heap.size) : OnlyB B C w w' := by
  refine ⟨⟨h.os, h.tape, h.output, h.size, fun i hi => h.block i (by omega) (fun e => by have := (hr i e.symm).1; omega)⟩, fun i hi hl => h.block i hl (fun e => by have := (hr i e.symm).2; omega)⟩
theorem OnlyB.own {B C D e n z : Nat} {w w' : World} {v : Value} {xs : List Value} (hg : OnlyB B C w w') (h : w.ownsRow D e z v n xs) (hD : C ≤ D) : w'.ownsRow D e z v n xs := by
  refine ⟨h.1, ?_⟩
  rcases h.2 with h0 | ⟨g, cap, cur, hv, hB, hh, r⟩
  · exact .inl h0
  · exact .inr ⟨g, cap, cur, hv, hB, (hg.above g (by omega) (lt_of_block hh)).trans hh, r⟩
theorem OnlyB.blk4 {B C b t : Nat} {w w' : World} {x y z u : Value} (hg : OnlyB B C w w') (h : Blk4 w b t x y z u) (hb : C ≤ b) : Blk4 w' b t x y z u := (hg.above b hb (lt_of_block h)).trans h
theorem own_kept {B C D e n z : Nat} {w w' : World} {v : Value} {xs : List Value} (hg : OnlyIn B C w w') (he : e ≠ 3) (h : w.ownsRow D e z v n xs) : w'.ownsRow D e z v n xs := by
  refine ⟨h.1, ?_⟩
  rcases h.2 with h0 | ⟨g, cap, cur, hv, hB, hh, r⟩
  · exact .inl h0
  · exact .inr ⟨g, cap, cur, hv, hB, (hg.kept g _ e he hh).trans hh, r⟩

theorem BL_set (m : List Bool) (j : Nat) (b : Bool) : (BL m).set j (.bool b) = BL (m.set j b) := by simp [BL, List.map_set]

set_option maxRecDepth 20000 in
set_option maxHeartbeats 1000000 in
theorem markBoolS_any (l : List Bool) (k : Nat) (B : Nat) (v : Value) (w : World) (hown : w.ownsRow B 4 1 v l.length (BL l)) (hl : l.length ≤ 1100000) (hk : k ≤ 4000000) :
    Calls Tryz.prog 58 #[v, .int .i64 (k : Int)] w fun e w' => e = .returned (.int .i64 ((k + l.length : Nat) : Int)) ∧ w.grownBy w' v.ownBlock := by
  have HW := Lib.hid hown
  obtain ⟨a, cap, rfl⟩ := own_slice hown
  clear hown
  go_enter Tryz.func58, Tryz.ntmps58
  go_wp2_with fail
  go_loopw [1, 5] (fun q i wr => ∃ (j : Nat) (m : List Bool), j ≤ l.length ∧ m.length = l.length ∧ q = .int .i64 ((k + j : Nat) : Int) ∧ i = .int .i64 j ∧ wr.ownsRow B 4 1 (.slice a l.length cap) l.length (BL m) ∧ w.grownBy wr (Value.slice a l.length cap).ownBlock) (fun _ i _ => l.length - (intOf i).toNat)
  case atStart => exact ⟨0, l, Nat.zero_le _, rfl, rfl, rfl, HW.out, grown_refl _ _⟩
  case round =>
    clear HW
    obtain ⟨j, m, hj, hm, rfl, rfl, hown, hg⟩ := hrel
    have HM := Lib.hid hm
    by_cases hlt : j < l.length
    · obtain ⟨g, c2, hv⟩ : ∃ g c2, (Value.slice a l.length cap) = .slice (some ⟨g, 0, none⟩) l.length c2 := by
        rcases hown.2 with ⟨_, h0⟩ | ⟨g, c2, cur, hv, _⟩
        · omega
        · exact ⟨g, c2, hv⟩
      injection hv with hv1 hv2 hv3
      subst hv1
      have hc4 : l.length ≤ cap := by
        rcases hown.2 with ⟨_, h0⟩ | ⟨g, c2, cur, hv, _, _, h5, _⟩
        · omega
        · injection hv with _ _ hv3; omega
      have hfz := hown.frozenAt j
      have hcz : wr.cell? ⟨g, j, none⟩ = some (.bool (m[j]'(by omega))) := by
        rw [hown.cellAt j (by omega)]
        rw [List.getElem?_eq_getElem (by rw [BL_len]; omega), BL_get (by omega)]
      have HST := Lib.hid (fun b => hown.stored j (.bool b))
      have HG := Lib.hid hg
      generalize m[j]'(by omega) = y at hcz
      have HKJ := Lib.hid (show ((k + (j + 1) : Nat) : Int) = ((k + j : Nat) : Int) + 1 by omega)
      generalize hkj : k + j = kj at *
      have hkj2 : kj ≤ 5200000 := by omega
      clear hown hg hv2 hv3 hm
      clear hkj
      go_wp2_with fail
      go_roundw
      case rel => exact ⟨j + 1, m.set j ((kj : Int) % 3 == 0), by omega, by rw [List.length_set]; exact HM.out, by rw [HKJ.out], by go_num, by rw [← BL_set]; exact (HST.out _).1, grown_trans HG.out (HST.out _).2⟩
      case measure => simp [intOf]; omega
    · obtain rfl : j = l.length := by omega
      have HG := Lib.hid hg
      clear hown hg hm
      go_wp2_with fail
      go_ret
      exact ⟨rfl, HG.out⟩

theorem totalO3 {rs : List (List OpT)} {j : Nat} (hj : j < rs.length) (k : Nat) : ((k + 3 * totalO (rs.take (j + 1)) : Nat) : Int) = ((k + 3 * totalO (rs.take j) : Nat) : Int) + (rs[j].length : Int) * 3 := by
  rw [totalO_next hj]; omega

set_option maxRecDepth 20000 in
set_option maxHeartbeats 2000000 in
theorem markOpSS_any (rs : List (List OpT)) (k B C : Nat) (v : Value) (sl : List Value) (w : World) (hown : OwnOO B w v sl rs) (hC : ∀ p ∈ sl.zip rs, ∀ b, p.1.ownBlock = some b → b < C) (hB : B ≤ w.heap.size) (hl : rs.length + totalO rs ≤ 1100000) (hk : k + 3 * totalO rs ≤ 4000000) (hk1 : 1 ≤ k) :
    Calls Tryz.prog 59 #[v, .int .i64 (k : Int)] w fun e w' => e = .returned (.int .i64 ((k + 3 * totalO rs : Nat) : Int)) ∧ OnlyB B C w w' := by
  obtain ⟨hs, hrow, hL⟩ := hown
  have HW := Lib.hid hrow
  have HL0 := Lib.hid hL
  have HC := Lib.hid hC
  have HS := Lib.hid hs
  obtain ⟨a, cap, rfl⟩ := own_slice hrow
  clear hrow hL hC hs
  go_enter Tryz.func59, Tryz.ntmps59
  go_wp2_with fail
  go_loopw [1, 5] (fun q i wr => ∃ j : Nat, j ≤ rs.length ∧ q = .int .i64 ((k + 3 * totalO (rs.take j) : Nat) : Int) ∧ i = .int .i64 j ∧ Hid (wr.ownsRow B 114 1 (.slice a rs.length cap) rs.length sl) ∧ Hid (ListsO B wr ((sl.zip rs).drop j)) ∧ Hid (OnlyB B C w wr)) (fun _ i _ => rs.length - (intOf i).toNat)
  case atStart => exact ⟨0, Nat.zero_le _, by simp [totalO], rfl, HW, by simpa [Hid] using HL0.out, ⟨Below.refl _ _, fun _ _ _ => rfl⟩⟩
  case round =>
    clear HW HL0
    obtain ⟨j, hj, rfl, rfl, HN, HL, HG⟩ := hrel
    by_cases hlt : j < rs.length
    · have hjs : j < sl.length := by have := HS.out; omega
      have hz : j < (sl.zip rs).length := by rw [List.length_zip]; omega
      have hdr : (sl.zip rs).drop j = (sl[j], rs[j]) :: (sl.zip rs).drop (j + 1) := by rw [List.drop_eq_getElem_cons hz, List.getElem_zip]
      have hl1 := HL.out
      rw [hdr] at hl1
      obtain ⟨ho, hp⟩ := hl1
      rw [List.pairwise_cons] at hp
      have hone := ho (sl[j], rs[j]) (by simp)
      simp only at hone
      obtain ⟨g, c2, hv⟩ : ∃ g c2, (Value.slice a rs.length cap) = .slice (some ⟨g, 0, none⟩) rs.length c2 := by
        rcases HN.out.2 with ⟨_, h0⟩ | ⟨g, c2, cur, hv, _⟩
        · omega
        · exact ⟨g, c2, hv⟩
      injection hv with hv1 hv2 hv3
      subst hv1
      have hc4 : rs.length ≤ cap := by
        rcases HN.out.2 with ⟨_, h0⟩ | ⟨g, c2, cur, hv, _, _, h5, _⟩
        · omega
        · injection hv with _ _ hv3; omega
      have hcell : wr.cell? ⟨g, j, none⟩ = some sl[j] := by rw [HN.out.cellAt j (by omega), List.getElem?_eq_getElem hjs]
      obtain ⟨a2, c3, hsv⟩ := own_sliceG hone
      have hmem : (sl[j], rs[j]) ∈ sl.zip rs := zip_getO hjs hlt
      have hbw : B ≤ wr.heap.size := Nat.le_trans hB HG.out.below.size
      have ht1 := totalO_at hlt
      have ht2 := totalO_le (rs := rs) (k := j + 1)
      have ht3 := totalO_next hlt
      have HC1 := Lib.hid (markOpS_any rs[j] (k + 3 * totalO (rs.take j)) B sl[j] wr hone (by omega) (by omega) (by omega))
      have HT := Lib.hid (totalO3 hlt k)
      have HNX : Hid (∀ w1, wr.grownBy w1 (sl[j]).ownBlock → w1.ownsRow B 114 1 (.slice (some ⟨g, 0, none⟩) rs.length cap) rs.length sl ∧ ListsO B w1 ((sl.zip rs).drop (j + 1)) ∧ OnlyB B C w w1) := fun w1 hg => by
        refine ⟨own_apartG HN.out hg (own_typesG hone HN.out (by decide)), ⟨fun p hp' => ?_, hp.2⟩, HG.out.trans (OnlyB.of_grown hg (fun i hi => ⟨(hone.lt i hi).1, HC.out _ hmem i hi⟩) hbw)⟩
        exact own_apartG (ho p (by simp [hp'])) hg (fun b h1 h2 => hp.1 p hp' b h1 h2)
      rw [hsv] at hcell HC1 HNX
      clear hdr ho hp hone hmem ht1 ht2 ht3 hv2 hv3 HN HL HG hz
      generalize k + 3 * totalO (rs.take j) = kq at *
      generalize rs[j].length = nj at *
      go_wp2_with fail
      refine HC1.out.mono ?_
      rintro e w1 ⟨rfl, hg1⟩
      have HF := Lib.hid (HNX.out w1 hg1)
      clear hg1 HC1 HNX
      go_wp2_with fail
      go_roundw
      case rel => exact ⟨j + 1, by omega, by rw [HT.out], by go_num, HF.out.1, HF.out.2.1, HF.out.2.2⟩
      case measure => simp [intOf]; omega
    · have e1 : rs.take j = rs := List.take_of_length_le (by omega)
      rw [e1]
      clear HN HL
      go_wp2_with fail
      go_ret
      exact ⟨rfl, HG.out⟩

/-- How many marks a plan takes. -/
def markZ (ls : List (List Int)) (l : List Int) (bs : List Bool) (rs : List (List OpT)) : Nat := totalG ls l + bs.length + 3 * totalO rs
theorem OwnOO.kept {B C D : Nat} {w w' : World} {v : Value} {sl : List Value} {rs : List (List OpT)} (h : OwnOO B w v sl rs) (hg : OnlyIn D C w w') : OwnOO B w' v sl rs :=
  ⟨h.1, own_kept hg (by decide) h.2.1, fun p hp => own_kept hg (by decide) (h.2.2.1 p hp), h.2.2.2⟩
theorem OwnOO.grown {B B' e z n : Nat} {w w' : World} {v u : Value} {xs : List Value} {sl : List Value} {rs : List (List OpT)} (h : OwnOO B w v sl rs) (ho : w.ownsRow B' e z u n xs) (h1 : e ≠ 114) (h2 : e ≠ 141) (hg : w.grownBy w' u.ownBlock) : OwnOO B w' v sl rs :=
  ⟨h.1, own_apartG h.2.1 hg (own_typesG ho h.2.1 h1), h.2.2.outer ho h2 hg⟩

set_option maxRecDepth 20000 in
set_option maxHeartbeats 4000000 in
theorem markPlan_any (ls : List (List Int)) (l : List Int) (bs : List Bool) (rs : List (List OpT)) (B : Nat) (v : Value) (w0 w : World) (h0 : PlanO B w0 v ls l bs rs) (hb0 : Below w0.heap.size w0 w) (hB : B ≤ w0.heap.size) (hz : planZ ls l bs rs ≤ 1048576) :
    Calls Tryz.prog 18 #[v, .int .i64 1] w fun e w' => e = .returned (.int .i64 ((1 + markZ ls l bs rs : Nat) : Int)) ∧ OnlyB B w0.heap.size w w' := by
  obtain ⟨nv, ov, sv, rv, so, rfl, hg, hb, hr⟩ := h0
  unfold planZ at hz
  obtain ⟨an, cn, ao, co, he⟩ := hg.slices
  simp only [Value.agg.injEq, Array.mk.injEq, List.cons.injEq, and_true] at he
  obtain ⟨rfl, rfl⟩ := he
  obtain ⟨as0, cs, rfl⟩ := own_slice hb
  obtain ⟨ar, cr, rfl⟩ := own_slice hr.2.1
  obtain ⟨wa, hwa⟩ : ∃ wa, wa = w.alloc (.cells #[.slice an ls.length cn, .slice ao l.length co, .slice as0 bs.length cs, .slice ar rs.length cr] 42) := ⟨_, rfl⟩
  have P0 : Hid (Blk4 wa w.heap.size 42 (.slice an ls.length cn) (.slice ao l.length co) (.slice as0 bs.length cs) (.slice ar rs.length cr)) := by rw [hwa]; exact Blk4.new
  have hAw : Below w.heap.size w wa := by rw [hwa]; exact (Below.refl w.heap.size w).alloc (Nat.le_refl _) _
  have HA := Lib.hid hAw
  have H0A := Lib.hid (bth hb0 hAw (Nat.le_refl _))
  have hCw : w0.heap.size ≤ w.heap.size := hb0.size
  have HBO := Lib.hid (own_below hb H0A.out)
  have HRO := Lib.hid (hr.below H0A.out)
  have HRL := Lib.hid (fun p hp b h => ((hr.2.2.1 p hp).lt b h).2)
  have HBL := Lib.hid (fun b h => hb.lt b h)
  have HC := Lib.hid (markGraph_any ls l 1 B _ w0 wa hg H0A.out hB (by omega) (by omega))
  have hone : ((1 : Nat) : Int) = 1 := rfl
  rw [hone] at HC
  have htg : totalG ls l ≤ 1048576 := by unfold totalG; omega
  have HWA := Lib.hid hwa
  have HZ : Hid (1 + markZ ls l bs rs = 1 + totalG ls l + bs.length + 3 * totalO rs) := by show _ = _; unfold markZ; omega
  have HZ2 : Hid (1 + totalG ls l + bs.length + 3 * totalO rs ≤ 4000000 ∧ rs.length + totalO rs ≤ 1100000 ∧ bs.length ≤ 1100000) := ⟨by unfold totalG; omega, by omega, by omega⟩
  clear hwa hg hb hr hb0 hone hz
  go_enter Tryz.func18, Tryz.ntmps18
  go_wp2_with fail
  rw [← HWA.out]
  refine HC.out.mono ?_
  rintro e w1 ⟨rfl, _, hoi⟩
  have O1 := Lib.hid (OnlyB.of_only hoi)
  have P1 := Lib.hid (O1.out.blk4 P0.out hCw)
  have HB1 := Lib.hid (own_kept hoi (by decide) HBO.out)
  have HR1 := Lib.hid (HRO.out.kept hoi)
  have hs1 : w0.heap.size ≤ w1.heap.size := Nat.le_trans hCw (Nat.le_trans HA.out.size hoi.below.size)
  have HC1 := Lib.hid (markBoolS_any bs (1 + totalG ls l) B _ w1 HB1.out HZ2.out.2.2 (by omega))
  have c2 := P1.out.cells.2.2.1
  clear hoi HC
  go_wp2_with fail
  refine HC1.out.mono ?_
  rintro e w2 ⟨rfl, hg2⟩
  have O2 := Lib.hid (O1.out.trans (OnlyB.of_grown (B := B) (C := w0.heap.size) hg2 (fun i hi => HBL.out i hi) (Nat.le_trans hB hs1)))
  have P2 := Lib.hid ((OnlyB.of_grown (B := B) (C := w0.heap.size) hg2 (fun i hi => HBL.out i hi) (Nat.le_trans hB hs1)).blk4 P1.out hCw)
  have HR2 := Lib.hid (HR1.out.grown HB1.out (by decide) (by decide) hg2)
  have hs2 : w0.heap.size ≤ w2.heap.size := Nat.le_trans hs1 hg2.size
  have HC2 := Lib.hid (markOpSS_any rs (1 + totalG ls l + bs.length) B w0.heap.size _ so w2 HR2.out HRL.out (Nat.le_trans hB hs2) HZ2.out.2.1 HZ2.out.1 (by omega))
  have c3 := P2.out.cells.2.2.2
  clear hg2 HC1 c2
  go_wp2_with fail
  refine HC2.out.mono ?_
  rintro e w3 ⟨rfl, hg3⟩
  have O3 := Lib.hid ((OnlyB.of_below (B := B) (C := w0.heap.size) HA.out (Nat.le_trans hB hCw)).trans (O2.out.trans hg3))
  clear hg3 HC2 c3
  go_wp2_with fail
  go_ret
  exact ⟨by rw [HZ.out] <;> rfl, O3.out⟩
end Go.Proofs.YtgolhfmmlanmlaaGreatDoor

/- Walks: the laws' helpers on the answers of chapters 7 and 8. -/
namespace Go.Proofs.YtgolhfmmlanmlaaGreatDoor
open Go.RowKit Pth

/-- Results are told, and whether they stand. -/
def ResOk (R : List ResT) (ok : Bool) (w : World) (e : Ending) (w' : World) : Prop :=
  ∃ v, e = .returned (.tuple #[v, .bool ok]) ∧ w'.ownsRow w.heap.size 75 2 v R.length (RC R) ∧ Below w.heap.size w w'
/-- Results are told, a number, and whether they stand. -/
def ResNOk (R : List ResT) (n : Int) (ok : Bool) (w : World) (e : Ending) (w' : World) : Prop :=
  ∃ v, e = .returned (.tuple #[v, .int .i64 n, .bool ok]) ∧ w'.ownsRow w.heap.size 75 2 v R.length (RC R) ∧ Below w.heap.size w w'
/-- Numbers are told, and whether they stand. -/
def NumsOk (R : List Int) (ok : Bool) (w : World) (e : Ending) (w' : World) : Prop :=
  ∃ v, e = .returned (.tuple #[v, .bool ok]) ∧ w'.ownsRow w.heap.size 3 1 v R.length (I R) ∧ Below w.heap.size w w'
theorem marksR_at (k n j : Nat) (hj : j < (marksR k n).length) : (marksR k n)[j] = (markT (k + j * 2), ((k + j * 2 + 1 : Nat) : Int)) := by simp [marksR]
theorem heldRow_R {w : World} {B n : Nat} {v : Value} (h : w.ownsRow B 75 2 v n (RC (marksR 1 n))) : RowR w v (marksR 1 n) := RowR.of_own (by rw [marksR_len]; exact h)
theorem heldRow_I {w : World} {B n : Nat} {v : Value} (h : w.ownsRow B 3 1 v n (I (marks 1 n))) : RowV w v (I (marks 1 n)) := RowV.of_own h

set_option maxHeartbeats 1000000 in
theorem szStringS_le (l : List (List UInt8)) (left : Nat) (v : Value) (w : World) (hrow : RowV w v (S l)) (hx : ∀ x ∈ l, x.length ≤ maxLen) (hl : left ≤ 2000000) :
    Calls Tryz.prog 8 #[v, .int .i64 (left : Int)] w fun e w' => ∃ r : Int, e = .returned (.int .i64 r) ∧ r ≤ left ∧ (0 ≤ r → r + l.length ≤ left ∧ ∀ x ∈ l, x.length ≤ left) ∧ w = w' := by
  obtain ⟨a, cap, rfl, hc1, hc2, hat⟩ := hrow.texts
  clear hrow
  unfold maxLen at hc2 hx
  by_cases hlen : l.length ≤ left
  · have hlen1 : decide ((left : Int) - (l.length : Int) < 0) = false := by simp; omega
    go_enter Tryz.func8, Tryz.ntmps8
    go_wp2_with fail
    go_loop [1, 5] (fun q i => ∃ (k : Nat) (r : Int), k ≤ l.length ∧ 0 ≤ r ∧ r + l.length ≤ left ∧ q = .int .i64 r ∧ i = .int .i64 k ∧ Hid (∀ x ∈ l.take k, x.length ≤ left)) (fun _ i => l.length - (intOf i).toNat)
    case atStart => exact ⟨0, (left : Int) - (l.length : Int), Nat.zero_le _, by omega, by omega, rfl, rfl, by simp [Hid]⟩
    case round =>
      obtain ⟨k, r, hk, hr0, hr1, rfl, rfl, HO⟩ := hrel
      by_cases hlt : k < l.length
      · obtain ⟨g, o, rfl, hg, hcell⟩ := hat k hlt
        have hxl := hx l[k] (List.getElem_mem hlt)
        by_cases hy : ((l[k]).length : Int) ≤ r
        · have HS : Hid (∀ x ∈ l.take (k + 1), x.length ≤ left) := by
            intro x hxm
            rw [List.take_succ_eq_append_getElem hlt, List.mem_append, List.mem_singleton] at hxm
            rcases hxm with h | h
            · exact HO.out x h
            · rw [h]; omega
          have hy1 : decide (r - ((l[k]).length : Int) < 0) = false := by simp; omega
          generalize l[k] = x at hcell hxl hy hy1
          clear hat HO hx
          go_wp2_with fail
          go_round
          case rel => exact ⟨k + 1, r - (x.length : Int), by omega, by omega, by omega, rfl, by go_num, HS⟩
          case measure => simp [intOf]; omega
        · have hy1 : decide (r - ((l[k]).length : Int) < 0) = true := by simp; omega
          generalize l[k] = x at hcell hxl hy hy1
          clear hat HO hx
          go_wp2_with fail
          go_ret
          exact ⟨-1, rfl, by omega, fun h => by omega, rfl⟩
      · have HS : Hid (∀ x ∈ l, x.length ≤ left) := by have := HO.out; rw [List.take_of_length_le (by omega)] at this; exact this
        clear hat HO hx
        go_wp2_with fail
        go_ret
        exact ⟨r, rfl, by omega, fun _ => ⟨by omega, HS.out⟩, rfl⟩
  · have hlen1 : decide ((left : Int) - (l.length : Int) < 0) = true := by simp; omega
    clear hat hx
    go_enter Tryz.func8, Tryz.ntmps8
    go_wp2_with fail
    go_ret
    exact ⟨-1, rfl, by omega, fun h => by omega, rfl⟩


set_option maxHeartbeats 1000000 in
theorem markIntS_huge (l : List Int) (k : Nat) (B : Nat) (v : Value) (w : World) (hown : w.ownsRow B 3 1 v l.length (I l)) (hl : l.length ≤ 2000000) (hk : k ≤ 8000000) :
    Calls Tryz.prog 29 #[v, .int .i64 (k : Int)] w (Marked B v k l.length w) := by
  have HW := Lib.hid hown
  obtain ⟨a, cap, rfl⟩ := own_slice hown
  clear hown
  go_enter Tryz.func29, Tryz.ntmps29
  go_wp2_with fail
  go_loopw [1, 5] (fun q i wr => ∃ j : Nat, j ≤ l.length ∧ q = .int .i64 ((k : Int) + (j : Int)) ∧ i = .int .i64 j ∧ wr.ownsRow B 3 1 (.slice a l.length cap) l.length (I (marks k j) ++ (I l).drop j) ∧ w.grownBy wr (Value.slice a l.length cap).ownBlock) (fun _ i _ => l.length - (intOf i).toNat)
  case atStart => exact ⟨0, Nat.zero_le _, by simp, rfl, HW.out, grown_refl _ _⟩
  case round =>
    clear HW
    obtain ⟨j, hj, rfl, rfl, hown, hg⟩ := hrel
    by_cases hlt : j < l.length
    · obtain ⟨g, c2, hv⟩ : ∃ g c2, (Value.slice a l.length cap) = .slice (some ⟨g, 0, none⟩) l.length c2 := by
        rcases hown.2 with ⟨_, h0⟩ | ⟨g, c2, cur, hv, _⟩
        · omega
        · exact ⟨g, c2, hv⟩
      injection hv with hv1 hv2 hv3
      subst hv1
      have hfz := hown.frozenAt j
      have hcz : wr.cell? ⟨g, j, none⟩ = some (.int .i64 l[j]) := by rw [hown.cellAt j (by omega), mark_get k l j hlt]
      have hst := hown.stored j (.int .i64 ((k : Int) + (j : Int)))
      rw [mark_set k l j hlt] at hst
      have HN1 := Lib.hid hst.1
      have HG1 := Lib.hid (grown_trans hg hst.2)
      have hc4 : l.length ≤ cap := by
        rcases hown.2 with ⟨_, h0⟩ | ⟨g, c2, cur, hv, _, _, h5, _⟩
        · omega
        · injection hv with _ _ hv3; omega
      clear hown hg hst hv2 hv3
      generalize l[j] = x at hcz
      go_wp2_with fail
      go_roundw
      case rel => exact ⟨j + 1, by omega, by go_num, by go_num, HN1.out, HG1.out⟩
      case measure => simp [intOf]; omega
    · obtain rfl : j = l.length := by omega
      have e : (I l).drop l.length = [] := List.drop_of_length_le (by rw [I_len]; omega)
      rw [e, List.append_nil] at hown
      have HN := Lib.hid hown
      have HG := Lib.hid hg
      clear hown hg e
      go_wp2_with fail
      go_ret
      exact ⟨rfl, HN.out, HG.out⟩


set_option maxRecDepth 20000 in
set_option maxHeartbeats 1000000 in
theorem heldResultS_any (k n : Nat) (v : Value) (w : World) (hrow : RowR w v (marksR k n)) (hn : n ≤ 1100000) (hk : k ≤ 4000000) (hk1 : 1 ≤ k) :
    Calls Tryz.prog 22 #[v, .int .i64 (k : Int)] w fun e w' => e = .returned (.int .i64 ((k : Int) + (n : Int) * 2)) ∧ Below w.heap.size w w' := by
  obtain ⟨a, cap, rfl, hc1, hc2, hat⟩ := hrow.res
  rw [marksR_len] at hc1 ⊢
  clear hrow
  unfold maxLen at hc2
  go_enter Tryz.func22, Tryz.ntmps22
  go_wp2_with fail
  go_loopw [1, 5] (fun q i wr => ∃ j : Nat, j ≤ n ∧ q = .int .i64 ((k : Int) + (j : Int) * 2) ∧ i = .int .i64 j ∧ Below w.heap.size w wr) (fun _ i _ => n - (intOf i).toNat)
  case atStart => exact ⟨0, Nat.zero_le _, by simp, rfl, Below.refl _ _⟩
  case round =>
    obtain ⟨j, hj, rfl, rfl, hb⟩ := hrel
    by_cases hlt : j < n
    · obtain ⟨g, o, rfl, hg, hcell0, hcell1⟩ := hat j (by rw [marksR_len]; exact hlt)
      rw [marksR_at] at hcell0 hcell1
      have s0 : wr.cell? ⟨g, o + j * 2, none⟩ = some (.string ⟨(markT (k + j * 2)).toArray⟩) := by rw [hb.cell (p := ⟨g, o + j * 2, none⟩) hg]; exact hcell0
      have ec : ((k + j * 2 + 1 : Nat) : Int) = (k : Int) + (j : Int) * 2 + 1 := by omega
      have s1 : wr.cell? ⟨g, o + j * 2 + 1, none⟩ = some (.int .i64 ((k : Int) + (j : Int) * 2 + 1)) := by rw [hb.cell (p := ⟨g, o + j * 2 + 1, none⟩) hg, hcell1, ← ec]
      have hgw : g < wr.heap.size := by have := hb.size; omega
      have HC := Lib.hid (fun W => mark_r (k + j * 2) ((k : Int) + (j : Int) * 2) (by omega) (by omega) (by omega) W)
      have HB := Lib.hid hb
      have hj1 : (j : Int) < (n : Int) := by omega
      clear hcell0 hcell1 hat hb ec
      generalize markT (k + j * 2) = y at s0 HC
      have ks := And.intro s0 s1
      go_wp2_with fail
      go_region_held3 (fun w' => w'.cell? ⟨g, o + j * 2, none⟩ = some (.string ⟨y.toArray⟩) ∧ w'.cell? ⟨g, o + j * 2 + 1, none⟩ = some (.int .i64 ((k : Int) + (j : Int) * 2 + 1))) (first | exact ks | exact k0)
        (first | (go_at_call 60; refine (HC.out _).mono ?_; rintro e w5 ⟨rfl, hb5⟩; have k0 := And.intro ((hb5.cell (p := ⟨g, o + j * 2, none⟩) hgw).trans ks.1) ((hb5.cell (p := ⟨g, o + j * 2 + 1, none⟩) hgw).trans ks.2)))
      have s1 := k0.2
      have HB5 := Lib.hid ((Below.drew HB.out).trans (hb5.mono HB.out.size))
      clear hb5 k0 ks
      go_wp2_with fail
      go_roundw
      case rel => exact ⟨j + 1, by omega, by go_num, by go_num, HB5.out⟩
      case measure => simp [intOf]; omega
    · obtain rfl : j = n := by omega
      have HB := Lib.hid hb
      clear hat hb
      go_wp2_with fail
      go_ret
      exact ⟨rfl, HB.out⟩

end Go.Proofs.YtgolhfmmlanmlaaGreatDoor

/- Walks: builds, of the reference and of the program. -/
namespace Go.Proofs.YtgolhfmmlanmlaaGreatDoor
open Go.RowKit Pth

theorem RC_set2 (m : List ResT) (y : Nat) (hy : y < m.length) (r : ResT) : ((RC m).set (y * 2) (.string ⟨r.1.toArray⟩)).set (y * 2 + 1) (.int .i64 r.2) = RC (m.set y r) := by
  have e : m = m.take y ++ m[y] :: m.drop (y + 1) := by rw [← List.drop_eq_getElem_cons hy, List.take_append_drop]
  have hl : (m.take y).length = y := by rw [List.length_take]; omega
  have h := set_two (m.take y) y hl m[y] (m.drop (y + 1)) r
  have e2 : m.set y r = m.take y ++ r :: m.drop (y + 1) := by
    rw [List.set_eq_take_append_cons_drop, if_pos hy]
  rw [e2]
  conv => lhs; rw [e]
  rw [RC_append, h, RC_append, RC_append, List.append_assoc]; rfl
/-- A result that is stored in a row of the call's own. -/
theorem own_setR {w : World} {B g c n y : Nat} {m : List ResT} (h : w.ownsRow B 75 2 (.slice (some ⟨g, 0, none⟩) n c) n (RC m)) (hy : y < m.length) (r : ResT) :
    ((w.setCell ⟨g, y * 2, none⟩ (.string ⟨r.1.toArray⟩)).setCell ⟨g, y * 2 + 1, none⟩ (.int .i64 r.2)).ownsRow B 75 2 (.slice (some ⟨g, 0, none⟩) n c) n (RC (m.set y r)) ∧
    w.grownBy ((w.setCell ⟨g, y * 2, none⟩ (.string ⟨r.1.toArray⟩)).setCell ⟨g, y * 2 + 1, none⟩ (.int .i64 r.2)) (some g) := by
  have h1 := h.stored (y * 2) (.string ⟨r.1.toArray⟩)
  have h2 := h1.1.stored (y * 2 + 1) (.int .i64 r.2)
  rw [RC_set2 m y hy r] at h2
  exact ⟨h2.1, grown_trans h1.2 h2.2⟩
/-- The cells of a result in a row of the call's own. -/
theorem own_atR {w : World} {B g c n y : Nat} {m : List ResT} (h : w.ownsRow B 75 2 (.slice (some ⟨g, 0, none⟩) n c) n (RC m)) (hm : m.length = n) (hy : y < m.length) :
    w.cell? ⟨g, y * 2, none⟩ = some (.string ⟨m[y].1.toArray⟩) ∧ w.cell? ⟨g, y * 2 + 1, none⟩ = some (.int .i64 m[y].2) ∧ w.frozen? ⟨g, y * 2, none⟩ = false ∧ w.frozen? ⟨g, y * 2 + 1, none⟩ = false := by
  obtain ⟨q0, q1⟩ := RC_at hy
  exact ⟨by rw [h.cellAt (y * 2) (by omega), q0], by rw [h.cellAt (y * 2 + 1) (by omega), q1], h.frozenAt _, h.frozenAt _⟩
theorem RowR.of_ownL {w : World} {B n : Nat} {v : Value} {l : List ResT} (h : w.ownsRow B 75 2 v n (RC l)) (hl : l.length = n) : RowR w v l := RowR.of_own (by rw [hl]; exact h)
theorem build_short (ls : List (List Int)) (l : List Int) (bs : List Bool) (rs : List (List OpT)) (ts : List (List UInt8)) : (buildA ls l bs rs ts).length ≤ 1000000 := by
  unfold buildA
  split
  · rename_i h
    have h1 := (src_parts h).1
    have h2 := (plan_parts h1).2.1
    have h3 := (plan_parts h1).1.high
    unfold buildM
    rw [pass_len]
    simp
    omega
  · simp
theorem none_ownR (w : World) (B : Nat) : w.ownsRow B 75 2 (.slice none 0 0) ([] : List ResT).length (RC []) := ⟨rfl, .inl ⟨rfl, rfl⟩⟩

end Go.Proofs.YtgolhfmmlanmlaaGreatDoor
