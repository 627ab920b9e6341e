/- Texts of one claim, joined in their order. -/
import Derived.Test.YtcfhfhpdnjaokaaGreatDoorM10
import Derived.Test.YtcfhfhpdnjaokaaGreatDoorM7
import Derived.Test.YtcfhfhpdnjaokaaGreatDoorM3

/- Walks: the program's doDeed, a kind each. -/
namespace Go.Proofs.YtcfhfhpdnjaokaaGreatDoor
open Go.RowKit Pth

set_option maxRecDepth 20000 in
set_option maxHeartbeats 2000000 in
theorem do_upper (n : Int) (t : List UInt8) (ins : List (List UInt8)) (u : Value) (acc : List UInt8) (w : World) (ha : acc.length ≤ 40) :
    Calls Tryz.prog 145 #[upperV, u, .string ⟨acc.toArray⟩] w (StepPost (rawT (3, n, t) ins acc) w) := by
  have HT := Lib.hid (show rawT (3, n, t) ins acc = some (upT acc) by simp [rawT])
  have HC := Lib.hid (fun W => upper_any acc W (by omega))
  unfold upperV
  have qcat := ta_upper_cat (.agg #[])
  have qtext := ta_upper_text (.agg #[])
  have qupper := ta_upper_upper (.agg #[])
  go_enter Tryz.func145, Tryz.ntmps145
  go_wp2_with fail
  refine (HC.out _).mono ?_
  rintro e w1 ⟨rfl, hb⟩
  have HB := Lib.hid (below_new hb)
  clear hb
  go_wp2_with fail
  go_ret2
  exact ⟨by rw [HT.out]; rfl, HB.out⟩

set_option maxRecDepth 20000 in
set_option maxHeartbeats 2000000 in
theorem do_sort (n : Int) (t : List UInt8) (ins : List (List UInt8)) (u : Value) (acc : List UInt8) (w : World) (ha : acc.length ≤ 40) :
    Calls Tryz.prog 145 #[sortV, u, .string ⟨acc.toArray⟩] w (StepPost (rawT (4, n, t) ins acc) w) := by
  have HT := Lib.hid (show rawT (4, n, t) ins acc = some (sortT acc) by simp [rawT])
  have HC := Lib.hid (fun W => sortBytes_any acc W (by omega))
  unfold sortV
  have qcat := ta_sort_cat (.agg #[])
  have qtext := ta_sort_text (.agg #[])
  have qupper := ta_sort_upper (.agg #[])
  have qsort := ta_sort_sort (.agg #[])
  go_enter Tryz.func145, Tryz.ntmps145
  go_wp2_with fail
  refine (HC.out _).mono ?_
  rintro e w1 ⟨rfl, hb⟩
  have HB := Lib.hid (below_new hb)
  clear hb
  go_wp2_with fail
  go_ret2
  exact ⟨by rw [HT.out]; rfl, HB.out⟩

set_option maxRecDepth 20000 in
set_option maxHeartbeats 2000000 in
theorem do_count (n : Int) (t : List UInt8) (ins : List (List UInt8)) (u : Value) (acc : List UInt8) (w : World) (ha : acc.length ≤ 40) :
    Calls Tryz.prog 145 #[countV, u, .string ⟨acc.toArray⟩] w (StepPost (rawT (6, n, t) ins acc) w) := by
  have HT := Lib.hid (show rawT (6, n, t) ins acc = some (numT acc.length) by simp [rawT])
  have HC := Lib.hid (fun W => itoa_any acc.length W (by omega))
  unfold countV
  have qcat := ta_count_cat (.agg #[])
  have qtext := ta_count_text (.agg #[])
  have qupper := ta_count_upper (.agg #[])
  have qsort := ta_count_sort (.agg #[])
  have qdrop := ta_count_drop (.agg #[])
  have qcount := ta_count_count (.agg #[])
  go_enter Tryz.func145, Tryz.ntmps145
  go_wp2_with fail
  refine (HC.out _).mono ?_
  rintro e w1 ⟨rfl, rfl⟩
  go_wp2_with fail
  go_ret2
  exact ⟨by rw [HT.out]; rfl, (Below.refl _ _).alloc (Nat.le_refl _) _⟩

set_option maxRecDepth 20000 in
set_option maxHeartbeats 2000000 in
theorem do_fail (n : Int) (t : List UInt8) (ins : List (List UInt8)) (u : Value) (acc : List UInt8) (w : World) :
    Calls Tryz.prog 145 #[failV, u, .string ⟨acc.toArray⟩] w (StepPost (rawT (7, n, t) ins acc) w) := by
  have HT := Lib.hid (show rawT (7, n, t) ins acc = none by simp [rawT])
  unfold failV
  have qcat := ta_fail_cat (.agg #[])
  have qtext := ta_fail_text (.agg #[])
  have qupper := ta_fail_upper (.agg #[])
  have qsort := ta_fail_sort (.agg #[])
  have qdrop := ta_fail_drop (.agg #[])
  have qcount := ta_fail_count (.agg #[])
  have qfail := ta_fail_fail (.agg #[])
  go_enter Tryz.func145, Tryz.ntmps145
  go_wp2_with fail
  go_ret2
  exact ⟨by rw [HT.out]; rfl, (Below.refl _ _).alloc (Nat.le_refl _) _⟩

set_option maxRecDepth 20000 in
set_option maxHeartbeats 2000000 in
theorem do_text (n : Int) (t : List UInt8) (ins : List (List UInt8)) (u : Value) (acc : List UInt8) (w : World) (ha : acc.length ≤ 40) (ht : t.length ≤ 10) :
    Calls Tryz.prog 145 #[textV t, u, .string ⟨acc.toArray⟩] w (StepPost (rawT (2, n, t) ins acc) w) := by
  have HT := Lib.hid (show rawT (2, n, t) ins acc = some (acc ++ t) by simp [rawT])
  unfold textV
  have qcat := ta_text_cat (.agg #[.string ⟨t.toArray⟩])
  have qtext := ta_text_text (.agg #[.string ⟨t.toArray⟩])
  go_enter Tryz.func145, Tryz.ntmps145
  go_wp2_with fail
  go_ret2
  exact ⟨by rw [HT.out]; show _ = Ending.returned (.tuple #[.string ⟨(acc ++ t).toArray⟩, .bool true]); rw [← data_app]; rfl, (Below.refl _ _).alloc (Nat.le_refl _) _⟩

set_option maxRecDepth 20000 in
set_option maxHeartbeats 2000000 in
theorem do_cat (ins : List (List UInt8)) (n : Nat) (t : List UInt8) (u : Value) (acc : List UInt8) (w : World) (hrow : RowV w u (S ins)) (ha : acc.length ≤ 40) (hn : n < ins.length) (hx : ∀ x ∈ ins, x.length ≤ 40) (hi : ins.length ≤ 10) :
    Calls Tryz.prog 145 #[catV n, u, .string ⟨acc.toArray⟩] w (StepPost (rawT (1, n, t) ins acc) w) := by
  obtain ⟨a, cap, rfl, hc1, hc2, hat⟩ := hrow.texts
  clear hrow
  obtain ⟨g, o, rfl, hg, hcell⟩ := hat n hn
  have hxl := hx ins[n] (List.getElem_mem hn)
  have hcell2 : (w.alloc (.cells #[.int .i64 (n : Int)] 193)).cell? ⟨g, o + n, none⟩ = some (.string ⟨ins[n].toArray⟩) := by rw [World.cell?_alloc_lt _ _ _ hg]; exact hcell
  have HT := Lib.hid (show rawT (1, n, t) ins acc = some (acc ++ ins[n]) by
    show some (acc ++ (ins[(n : Int).toNat]?).getD []) = _
    simp [hn])
  obtain ⟨y, hy⟩ : ∃ y, y = ins[n] := ⟨_, rfl⟩
  rw [← hy] at hcell hxl hcell2 HT
  have hnz : (n : Int) < (ins.length : Int) := by omega
  clear hat hx hy hc1 hc2
  unfold catV
  have qcat := ta_cat_cat (.agg #[.int .i64 (n : Int)])
  go_enter Tryz.func145, Tryz.ntmps145
  go_wp2_with fail
  go_ret2
  exact ⟨by rw [HT.out]; show _ = Ending.returned (.tuple #[.string ⟨(acc ++ y).toArray⟩, .bool true]); rw [← data_app]; rfl, (Below.refl _ _).alloc (Nat.le_refl _) _⟩

set_option maxRecDepth 20000 in
set_option maxHeartbeats 2000000 in
theorem do_drop (ins : List (List UInt8)) (n : Nat) (t : List UInt8) (u : Value) (acc : List UInt8) (w : World) (ha : acc.length ≤ 40) (hn : n ≤ 40) :
    Calls Tryz.prog 145 #[dropV n, u, .string ⟨acc.toArray⟩] w (StepPost (rawT (5, n, t) ins acc) w) := by
  have HT := Lib.hid (show rawT (5, n, t) ins acc = some (acc.drop n) by
    show some (acc.drop (n : Int).toNat) = _
    simp only [Int.toNat_natCast])
  have HD := Lib.hid (drop_min acc n)
  by_cases hle : n ≤ acc.length
  · have hz : (n : Int) ≤ (acc.length : Int) := by omega
    have hm : min (n : Int) (acc.length : Int) = (n : Int) := by omega
    rw [Nat.min_eq_right hle] at HD
    unfold dropV
    have qcat := ta_drop_cat (.agg #[.int .i64 (n : Int)])
    have qtext := ta_drop_text (.agg #[.int .i64 (n : Int)])
    have qupper := ta_drop_upper (.agg #[.int .i64 (n : Int)])
    have qsort := ta_drop_sort (.agg #[.int .i64 (n : Int)])
    have qdrop := ta_drop_drop (.agg #[.int .i64 (n : Int)])
    go_enter Tryz.func145, Tryz.ntmps145
    go_wp2_with fail
    go_ret2
    exact ⟨by rw [HT.out]; show _ = Ending.returned (.tuple #[.string ⟨(acc.drop n).toArray⟩, .bool true]); rw [← HD.out]; rfl, (Below.refl _ _).alloc (Nat.le_refl _) _⟩
  · have hz : (acc.length : Int) < (n : Int) := by omega
    have hm : min (n : Int) (acc.length : Int) = (acc.length : Int) := by omega
    rw [Nat.min_eq_left (by omega)] at HD
    unfold dropV
    have qcat := ta_drop_cat (.agg #[.int .i64 (n : Int)])
    have qtext := ta_drop_text (.agg #[.int .i64 (n : Int)])
    have qupper := ta_drop_upper (.agg #[.int .i64 (n : Int)])
    have qsort := ta_drop_sort (.agg #[.int .i64 (n : Int)])
    have qdrop := ta_drop_drop (.agg #[.int .i64 (n : Int)])
    go_enter Tryz.func145, Tryz.ntmps145
    go_wp2_with fail
    go_ret2
    exact ⟨by rw [HT.out, show acc.drop n = [] from List.drop_eq_nil_of_le (by omega)]; rfl, (Below.refl _ _).alloc (Nat.le_refl _) _⟩

theorem do_any (o : OpT) (ins : List (List UInt8)) (u : Value) (acc : List UInt8) (w : World) (hrow : RowV w u (S ins)) (hok : opOk ins.length o = true) (ht : textsL ins = true) (ha : acc.length ≤ 40) :
    Calls Tryz.prog 145 #[deedV o, u, .string ⟨acc.toArray⟩] w (StepPost (rawT o ins acc) w) := by
  obtain ⟨k, n, t⟩ := o
  simp only [textsL, Bool.and_eq_true, List.all_eq_true, decide_eq_true_eq] at ht
  simp only [opOk] at hok
  split at hok
  · rename_i h; subst h
    simp only [Bool.and_eq_true, decide_eq_true_eq] at hok
    obtain ⟨m, rfl⟩ : ∃ m : Nat, n = m := ⟨n.toNat, by omega⟩
    exact do_cat ins m t u acc w hrow ha (by omega) ht.1 ht.2
  split at hok
  · rename_i h; subst h
    simp only [Bool.and_eq_true, decide_eq_true_eq] at hok
    exact do_text n t ins u acc w ha hok.2
  split at hok
  · rename_i h; subst h
    simp only [Bool.and_eq_true, decide_eq_true_eq] at hok
    obtain ⟨m, rfl⟩ : ∃ m : Nat, n = m := ⟨n.toNat, by omega⟩
    exact do_drop ins m t u acc w ha (by omega)
  split at hok
  · rename_i h
    rcases h with h | h | h | h <;> subst h
    · exact do_upper n t ins u acc w ha
    · exact do_sort n t ins u acc w ha
    · exact do_count n t ins u acc w ha
    · exact do_fail n t ins u acc w
  · cases hok

end Go.Proofs.YtcfhfhpdnjaokaaGreatDoor

/- Walks: the program's runDeeds. -/
namespace Go.Proofs.YtcfhfhpdnjaokaaGreatDoor
open Go.RowKit Pth

theorem raw_len {o : OpT} {ins : List (List UInt8)} {acc z : List UInt8} (hok : opOk ins.length o = true) (ht : textsL ins = true) (ha : acc.length ≤ 40) (h : rawT o ins acc = some z) : z.length ≤ 80 := by
  obtain ⟨k, n, t⟩ := o
  simp only [textsL, Bool.and_eq_true, List.all_eq_true, decide_eq_true_eq] at ht
  unfold rawT at h
  simp only at h
  split at h
  · simp only [Option.some.injEq] at h; subst h
    rcases hm : ins[n.toNat]? with _ | y
    · simp; omega
    · have := ht.1 y (List.mem_of_getElem? hm)
      simp; omega
  split at h
  · rename_i h1 h2
    simp only [Option.some.injEq] at h; subst h
    simp only [opOk, h1, if_neg, h2, if_true, Bool.and_eq_true, decide_eq_true_eq] at hok
    simp at hok ⊢; omega
  split at h
  · simp only [Option.some.injEq] at h; subst h; rw [upT_len]; omega
  split at h
  · simp only [Option.some.injEq] at h; subst h; rw [sortT_len]; omega
  split at h
  · simp only [Option.some.injEq] at h; subst h; simp; omega
  split at h
  · simp only [Option.some.injEq] at h; subst h; have := numT_len acc.length; omega
  · cases h

set_option maxRecDepth 20000 in
set_option maxHeartbeats 2000000 in
theorem runD_any (r : List OpT) (ins : List (List UInt8)) (v u : Value) (acc0 : List UInt8) (w : World) (hrow : RowV w v (DC r)) (hins : RowV w u (S ins)) (hok : r.all (opOk ins.length) = true) (ht : textsL ins = true) (ha0 : acc0.length ≤ 40) :
    Calls Tryz.prog 86 #[v, u, .string ⟨acc0.toArray⟩] w (StepPost (Pth.runT ins r acc0) w) := by
  obtain ⟨a, cap, rfl, hc1, hc2, hat⟩ := hrow
  have hdc : (DC r).length = r.length := by simp [DC]
  rw [hdc] at hc1 ⊢
  have hat2 : ∀ k (hk : k < r.length), ∃ g o, a = some ⟨g, o, none⟩ ∧ g < w.heap.size ∧ w.cell? ⟨g, o + k, none⟩ = some (deedV r[k]) := fun k hk => by
    obtain ⟨g, o, h1, h2, h3⟩ := hat k (by rw [hdc]; exact hk)
    exact ⟨g, o, h1, h2, by rw [h3]; simp [DC]⟩
  have HI := Lib.hid hins
  have HK : Hid (∀ k (hk : k < r.length), opOk ins.length r[k] = true) := fun k hk => List.all_eq_true.1 hok _ (List.getElem_mem hk)
  have HX := Lib.hid ht
  clear hat hins hok ht hdc
  unfold maxLen at hc2
  obtain ⟨R, hR⟩ : ∃ R, R = Pth.runT ins r acc0 := ⟨_, rfl⟩
  rw [← hR]
  go_enter Tryz.func86, Tryz.ntmps86
  go_wp2_with fail
  go_loopw [2, 14] (fun s i wr => ∃ (k : Nat) (acc : List UInt8), k ≤ r.length ∧ acc.length ≤ 40 ∧ s = .string ⟨acc.toArray⟩ ∧ i = .int .i64 k ∧ Hid (Below w.heap.size w wr) ∧ Hid (R = Pth.runT ins (r.drop k) acc)) (fun _ i _ => r.length - (intOf i).toNat)
  case atStart => exact ⟨0, acc0, Nat.zero_le _, ha0, rfl, by go_num, Below.refl _ _, hR⟩
  case round =>
    clear hR ha0
    obtain ⟨k, acc, hk, hacc, rfl, rfl, HB, HO⟩ := hrel
    by_cases hlt : k < r.length
    · obtain ⟨g, o, rfl, hg, hcell⟩ := hat2 k hlt
      have s1 := (HB.out.cell (p := ⟨g, o + k, none⟩) hg).trans hcell
      have hltz : (k : Int) < (r.length : Int) := by omega
      have HC := Lib.hid (do_any r[k] ins u acc wr (HI.out.below HB.out) (HK.out k hlt) HX.out hacc)
      rcases hy : rawT r[k] ins acc with _ | z
      · have HV := Lib.hid (run_none HO.out hlt (by rw [Pth.stepT, hy]; rfl))
        rw [hy] at HC
        clear hcell hat2 HO hy
        generalize deedV r[k] = x at s1 HC
        go_wp2_with fail
        refine HC.out.mono ?_
        rintro e w1 ⟨rfl, hb1⟩
        have HB1 := Lib.hid (below_step HB.out hb1)
        clear hb1 HC
        go_wp2_with fail
        go_ret2
        exact ⟨by rw [HV.out]; rfl, HB1.out⟩
      · have hz := raw_len (HK.out k hlt) HX.out hacc hy
        have HL := Lib.hid (fun W => long_any z W (by unfold maxLen; omega))
        rw [hy] at HC
        by_cases h40 : z.length ≤ 40
        · have HV := Lib.hid (run_some HO.out hlt (show Pth.stepT r[k] ins acc = some z by rw [Pth.stepT, hy]; exact if_pos h40))
          rw [show decide (40 < z.length) = false from decide_eq_false (by omega)] at HL
          clear hcell hat2 HO hy
          generalize deedV r[k] = x at s1 HC
          go_wp2_with fail
          refine HC.out.mono ?_
          rintro e w1 ⟨rfl, hb1⟩
          have HB1 := Lib.hid (below_step HB.out hb1)
          clear hb1 HC
          go_wp2_with (go_at_call 79; refine (HL.out _).mono ?_; rintro e w2 ⟨rfl, rfl⟩)
          go_roundw
          case rel => exact ⟨k + 1, z, by omega, h40, rfl, by go_num, HB1, HV⟩
          case measure => simp [intOf]; omega
        · have HV := Lib.hid (run_none HO.out hlt (show Pth.stepT r[k] ins acc = none by rw [Pth.stepT, hy]; exact if_neg h40))
          rw [show decide (40 < z.length) = true from decide_eq_true (by omega)] at HL
          clear hcell hat2 HO hy
          generalize deedV r[k] = x at s1 HC
          go_wp2_with fail
          refine HC.out.mono ?_
          rintro e w1 ⟨rfl, hb1⟩
          have HB1 := Lib.hid (below_step HB.out hb1)
          clear hb1 HC
          go_wp2_with (go_at_call 79; refine (HL.out _).mono ?_; rintro e w2 ⟨rfl, rfl⟩)
          go_ret2
          exact ⟨by rw [HV.out]; rfl, HB1.out⟩
    · have HV := Lib.hid (show R = some acc by rw [HO.out, List.drop_eq_nil_of_le (by omega)]; rfl)
      have hltz : ¬ ((k : Int) < (r.length : Int)) := by omega
      have HC := Lib.hid (fun W => clone_text acc W (by omega))
      clear HO hat2
      go_wp2_with fail
      refine (HC.out _).mono ?_
      rintro e w1 ⟨rfl, hb1⟩
      have HB1 := Lib.hid (below_step HB.out hb1)
      clear hb1 HC
      go_wp2_with fail
      go_ret2
      exact ⟨by rw [HV.out]; rfl, HB1.out⟩

end Go.Proofs.YtcfhfhpdnjaokaaGreatDoor

/- Walks: the program's RunRecipe. -/
namespace Go.Proofs.YtcfhfhpdnjaokaaGreatDoor
open Go.RowKit Pth

set_option maxRecDepth 20000 in
set_option maxHeartbeats 2000000 in
theorem implRun_any (r : List OpT) (ins : List (List UInt8)) (v u : Value) (w : World) (hrow : RowO w v r) (hins : RowV w u (S ins)) (hx : ∀ x ∈ ins, x.length ≤ maxLen) :
    Calls Tryz.prog 24 #[v, u] w (TellPost (runOk r ins) (runA r ins) w) := by
  have HD := Lib.hid (deedsOn_any r ins v u w hrow hins hx)
  have HI := Lib.hid hins
  clear hrow hins hx
  rcases hg : runOk r ins with _ | _
  · have HA := Lib.hid (show runA r ins = none by rw [runA, hg]; rfl)
    rw [hg] at HD
    clear hg
    go_enter Tryz.func24, Tryz.ntmps24
    go_wp2_with fail
    refine HD.out.mono ?_
    rintro e w1 ⟨d, rfl, hn, hb⟩
    have HB := Lib.hid hb
    clear hn hb HD
    go_wp2_with fail
    go_ret3
    exact ⟨by rw [HA.out]; rfl, HB.out⟩
  · have HA := Lib.hid (show runA r ins = Pth.runT ins r [] by rw [runA, hg]; rfl)
    have hh : textsL ins = true ∧ goodR r ins.length = true := by simpa [runOk] using hg
    have HR := Lib.hid (fun (W : World) (d : Value) (h1 : RowV W d (DC r)) (h2 : RowV W u (S ins)) => runD_any r ins d u [] W h1 h2 (goodR_all hh.2) hh.1 (by simp))
    rw [hg] at HD
    clear hg hh
    go_enter Tryz.func24, Tryz.ntmps24
    go_wp2_with fail
    refine HD.out.mono ?_
    rintro e w1 ⟨d, rfl, hn, hb⟩
    have HC := Lib.hid (HR.out w1 d (by have := RowV.of_own hn; simpa using this) (HI.out.below hb))
    have HB := Lib.hid hb
    clear hn hb HD HR
    go_wp2_with fail
    refine HC.out.mono ?_
    rintro e w2 ⟨rfl, hb2⟩
    have HB2 := Lib.hid (below_step HB.out hb2)
    clear hb2 HC
    generalize Pth.runT ins r [] = y at HA
    go_wp2_with fail
    go_ret3
    exact ⟨by rw [HA.out]; rfl, HB2.out⟩

end Go.Proofs.YtcfhfhpdnjaokaaGreatDoor

/- Walks: what a task is to be, of the program. -/
namespace Go.Proofs.YtcfhfhpdnjaokaaGreatDoor
open Go.RowKit Pth

theorem makeTask_of (ls : List (List Int)) (l : List Int) (bs : List Bool) (rs : List (List OpT)) (m : List ResT) (t : Nat) (v u : Value) (w : World) (hp : PlanV w v ls l bs rs) (hr : RowR w u m) (hpl : planA ls l bs rs = true) (hmb : m.length = bs.length) (ht : t < ls.length) (hxm : Sml m) :
    Calls Tryz.prog 82 #[v, u, .int .i64 (t : Int)] w fun e w' => e = .returned (resV (makeM ls rs m t)) ∧ Below w.heap.size w w' := by
  have hrl := (plan_parts hpl).2.2.1
  have htr : t < rs.length := by omega
  obtain ⟨hl10, _⟩ := plan_task hpl ht
  have htx : textsL (bodiesL m ls[t]) = true := texts_of_sml hxm (by omega)
  have hgood : goodR rs[t] (ls[t].length : Int) = true := by
    have h1 := (plan_parts hpl).2.1
    have := (plan_parts hpl).2.2.2 t ht
    rw [planP_at ht (by omega) htr, Bool.and_eq_true] at this
    exact this.1
  have hok : runOk rs[t] (bodiesL m ls[t]) = true := by unfold runOk; rw [htx, bodies_len, hgood]; rfl
  have hra : runA rs[t] (bodiesL m ls[t]) = Pth.runT (bodiesL m ls[t]) rs[t] [] := by unfold runA; rw [hok]; rfl
  have e : makeM ls rs m t = madeR (firstL m ls[t]).2 (Pth.runT (bodiesL m ls[t]) rs[t] []).isSome (txtO (Pth.runT (bodiesL m ls[t]) rs[t] [])) := by unfold makeM; rw [getD_at _ ht, getD_at _ htr]
  rw [e]
  refine makeTask_any ls l bs rs m t _ _ (runOk rs[t] (bodiesL m ls[t])) v u w hp hr hpl hmb ht htr hxm (fun W a b ha hb => ?_)
  have := implRun_any rs[t] (bodiesL m ls[t]) a b W ha hb (fun x hx => by
    have h2 : (bodiesL m ls[t]).all (fun x => decide (x.length ≤ 40)) = true := by unfold textsL at htx; rw [Bool.and_eq_true] at htx; exact htx.1
    have := List.all_eq_true.1 h2 x hx
    rw [decide_eq_true_eq] at this
    unfold maxLen; omega)
  unfold TellPost at this
  rw [hra] at this
  exact this

set_option maxRecDepth 20000 in
set_option maxHeartbeats 8000000 in
theorem implOne_any (ls : List (List Int)) (l : List Int) (bs : List Bool) (rs : List (List OpT)) (m : List ResT) (ts : List (List UInt8)) (t : Nat) (v u x : Value) (w : World) (hp : PlanV w v ls l bs rs) (hr : RowR w u m) (hts : RowV w x (S ts)) (hpl : planA ls l bs rs = true) (hmb : m.length = bs.length) (htb : ts.length = bs.length) (ht : t < ls.length) (hxm : Sml m) (hxt : ∀ y ∈ ts, y.length ≤ 40) :
    Calls Tryz.prog 72 #[v, x, u, .int .i64 (t : Int)] w fun e w' => e = .returned (resV (oneM ls bs rs ts m t)) ∧ Below w.heap.size w w' := by
  have hbl := (plan_parts hpl).2.1
  have htb' : t < bs.length := by omega
  have htt : t < ts.length := by omega
  have HV := Lib.hid hp
  obtain ⟨nv, ov, sv, rv, rfl, h1, h2, h3, h4⟩ := hp
  obtain ⟨as0, cs, rfl, hs1, hs2, hats⟩ := h3.boolsW
  obtain ⟨an, cn, rfl, hn1, hn2, _⟩ := h1.lists
  obtain ⟨ao, co, rfl, ho1, ho2, _⟩ := h2.ints
  obtain ⟨ar, cr, rfl, hr1, hr2, _⟩ := h4.lists
  clear h1 h2 h3 h4
  have HR := Lib.hid hr
  obtain ⟨am, cm, rfl, hm1, hm2, _⟩ := hr.res
  clear hr
  have HT := Lib.hid hts
  obtain ⟨at0, ct, rfl, ht1, ht2, hatt⟩ := hts.texts
  clear hts
  unfold maxLen at hs2 hn2 ho2 hr2 hm2 ht2
  obtain ⟨gs, os, rfl, hgs, hcs⟩ := hats t htb'
  obtain ⟨gt, ot, rfl, hgt, hct⟩ := hatt t htt
  obtain ⟨wp, hwp⟩ : ∃ wp, wp = w.alloc (.cells #[.slice an ls.length cn, .slice ao l.length co, .slice (some ⟨gs, os, none⟩) bs.length cs, .slice ar rs.length cr] 30) := ⟨_, rfl⟩
  obtain ⟨wa, hwa⟩ : ∃ wa, wa = wp.alloc (.cells #[.string ⟨#[]⟩, .int .i64 0] 41) := ⟨_, rfl⟩
  have ep : wp.heap.size = w.heap.size + 1 := by rw [hwp]; simp
  have ea : wa.heap.size = w.heap.size + 2 := by rw [hwa]; simp [ep]
  have P0 : Hid (Blk4 wa w.heap.size 30 (.slice an ls.length cn) (.slice ao l.length co) (.slice (some ⟨gs, os, none⟩) bs.length cs) (.slice ar rs.length cr)) := by rw [hwa, hwp]; exact Blk4.new.old _
  have R0 : Hid (Blk2 wa (w.heap.size + 1) 41 (.string ⟨#[]⟩) (.int .i64 0)) := by rw [hwa, ← ep]; exact Blk2.new
  have HA : Hid (Below w.heap.size w wa) := by rw [hwa, hwp]; exact ((Below.refl w.heap.size w).alloc (Nat.le_refl _) _).alloc (by simp) _
  have HWA : Hid ((w.alloc (.cells #[.slice an ls.length cn, .slice ao l.length co, .slice (some ⟨gs, os, none⟩) bs.length cs, .slice ar rs.length cr] 30)).alloc (.cells #[.string ⟨#[]⟩, .int .i64 0] 41) = wa) := by rw [hwa, hwp]; rfl
  have hsz : w.heap.size < wa.heap.size := by omega
  have hsz1 : w.heap.size + 1 < wa.heap.size := by omega
  clear hwa hwp ep
  have hzb : (t : Int) < (bs.length : Int) := by omega
  have hzt : (t : Int) < (ts.length : Int) := by omega
  have HMK := Lib.hid (makeTask_of ls l bs rs m t _ _ wa (HV.out.below HA.out) (HR.out.below HA.out) hpl hmb ht hxm)
  have hxl : ts[t].length ≤ 40 := hxt _ (List.getElem_mem htt)
  have HO : Hid (oneM ls bs rs ts m t = if bs[t] then (ts[t], 0) else makeM ls rs m t) := by show _ = _; unfold oneM; rw [getD_at _ htb', getD_at _ htt]
  rw [HO.out]
  have hRB := R0.out
  obtain ⟨r0, r1⟩ := hRB.cells
  have z0 := hRB.soft 0
  have z1 := hRB.soft 1
  obtain ⟨c0, c1, c2, c3⟩ := P0.out.cells
  clear hats hatt hpl hmb hxm hxt HO hRB htb hbl
  generalize bs[t] = b at *
  generalize ts[t] = y at *
  generalize makeM ls rs m t = M at *
  obtain ⟨M1, M2⟩ := M
  rcases b with _ | _
  · go_enter Tryz.func72, Tryz.ntmps72
    go_wp2_with fail
    rw [HWA.out]
    unfold resV at HMK
    simp only at HMK
    refine HMK.out.mono ?_
    rintro e w1 ⟨rfl, hb1⟩
    have HB1 := Lib.hid hb1
    clear hb1 c0 c1 c2 c3 r0 r1 z0 z1
    have hRB := R0.out.below HB1.out hsz1
    have HRB := Lib.hid hRB
    obtain ⟨r0, r1⟩ := hRB.cells
    have z0 := hRB.soft 0
    have z1 := hRB.soft 1
    clear hRB
    go_wp2_with fail
    have hZ := (HRB.out.set0 (.string ⟨M1.toArray⟩)).set1 (.int .i64 M2)
    refine bodyPost_ret (results_cellR rfl rfl (load_res hZ.cells.1 hZ.cells.2)) rfl ?_
    exact ⟨by rfl, ((bth HA.out HB1.out (Nat.le_refl _)).setCell (p := ⟨w.heap.size + 1, 0, none⟩) (by show _ ≤ _ + 1; omega) _).setCell (p := ⟨w.heap.size + 1, 1, none⟩) (by show _ ≤ _ + 1; omega) _⟩
  · go_enter Tryz.func72, Tryz.ntmps72
    go_wp2_with fail
    rw [HWA.out]
    refine (clone_any y _ (by omega)).mono ?_
    rintro e w1 ⟨rfl, hb1⟩
    have HB1 := Lib.hid hb1
    clear hb1 c0 c1 c2 c3 r0 r1 z0 z1
    have hRB := R0.out.below HB1.out hsz1
    have HRB := Lib.hid hRB
    obtain ⟨r0, r1⟩ := hRB.cells
    have z0 := hRB.soft 0
    have z1 := hRB.soft 1
    clear hRB
    go_wp2_with fail
    have hZ := (HRB.out.set0 (.string ⟨y.toArray⟩)).set1 (.int .i64 0)
    refine bodyPost_ret (results_cellR rfl rfl (load_res hZ.cells.1 hZ.cells.2)) rfl ?_
    exact ⟨by rfl, ((bth HA.out HB1.out (Nat.le_refl _)).setCell (p := ⟨w.heap.size + 1, 0, none⟩) (by show _ ≤ _ + 1; omega) _).setCell (p := ⟨w.heap.size + 1, 1, none⟩) (by show _ ≤ _ + 1; omega) _⟩

end Go.Proofs.YtcfhfhpdnjaokaaGreatDoor

/- Walks: what blocks a task, as it is told, of the reference and of the program. -/
namespace Go.Proofs.YtcfhfhpdnjaokaaGreatDoor
open Go.RowKit Pth

theorem in_no {ls : List (List Int)} {l : List Int} {bs : List Bool} {rs : List (List OpT)} {m : List ResT} {t : Int} (h : bothA ls l bs rs m = false) : inA ls l bs rs m t = false := by unfold inA; rw [h]; rfl
theorem in_yes {ls : List (List Int)} {l : List Int} {bs : List Bool} {rs : List (List OpT)} {m : List ResT} {t : Int} (h : bothA ls l bs rs m = true) : inA ls l bs rs m t = (decide (0 ≤ t) && decide (t < (bs.length : Int))) := by unfold inA; rw [h]; rfl
theorem block_no {ls : List (List Int)} {l : List Int} {bs : List Bool} {rs : List (List OpT)} {m : List ResT} {t : Int} (h : inA ls l bs rs m t = false) : blockA ls l bs rs m t = (0, false) := by unfold blockA; rw [h]; rfl
theorem block_un {ls : List (List Int)} {l : List Int} {bs : List Bool} {rs : List (List OpT)} {m : List ResT} {t : Int} (h : (resAt m t).2 ≠ 2) : blockA ls l bs rs m t = (0, false) := by unfold blockA; rw [decide_eq_false h]; simp
theorem block_yes {ls : List (List Int)} {l : List Int} {bs : List Bool} {rs : List (List OpT)} {m : List ResT} {j : Nat} (h : inA ls l bs rs m (j : Int) = true) (h2 : (resAt m (j : Int)).2 = 2) (hj : j < ls.length) : blockA ls l bs rs m (j : Int) = firstL m ls[j] := by
  unfold blockA; rw [h, decide_eq_true h2, needsAt_get hj]; rfl
theorem ins_no {ls : List (List Int)} {l : List Int} {bs : List Bool} {rs : List (List OpT)} {m : List ResT} {t : Int} (h : inA ls l bs rs m t = false) : insA ls l bs rs m t = [] := by unfold insA; rw [h]; rfl
theorem ins_yes {ls : List (List Int)} {l : List Int} {bs : List Bool} {rs : List (List OpT)} {m : List ResT} {j : Nat} (h : inA ls l bs rs m (j : Int) = true) (hj : j < ls.length) : insA ls l bs rs m (j : Int) = bodiesL m ls[j] := by
  unfold insA; rw [h, needsAt_get hj]; rfl

set_option maxRecDepth 20000 in
set_option maxHeartbeats 1000000 in
theorem l7Task_b {ls : List (List Int)} {l : List Int} {bs : List Bool} {rs : List (List OpT)} {t : Int} {b : Bool} (h : (decide (0 ≤ t) && decide (t < (bs.length : Int))) = b) (v : Value) (w : World) (hp : PlanV w v ls l bs rs) :
    Calls Tryz.prog 90 #[v, .int .i64 t] w (BoolPost b w) := by
  obtain ⟨nv, ov, sv, rv, rfl, h1, h2, h3, h4⟩ := hp
  obtain ⟨as0, cs, rfl, hs1, hs2, _⟩ := h3.boolsW
  obtain ⟨an, cn, rfl, hn1, hn2, _⟩ := h1.lists
  obtain ⟨ao, co, rfl, ho1, ho2, _⟩ := h2.ints
  obtain ⟨ar, cr, rfl, hr1, hr2, _⟩ := h4.lists
  clear h1 h2 h3 h4
  unfold maxLen at hs2 hn2 ho2 hr2
  have HC := Lib.hid (fun W => l1In_task (w := W) h)
  have HB := Lib.hid ((Below.refl w.heap.size w).alloc (Nat.le_refl _) (.cells #[.slice an ls.length cn, .slice ao l.length co, .slice as0 bs.length cs, .slice ar rs.length cr] 30))
  clear h
  go_enter Tryz.func90, Tryz.ntmps90
  go_wp2_with fail
  refine (HC.out _).mono ?_
  rintro e w1 ⟨rfl, rfl⟩
  go_wp2_with fail
  go_ret
  exact ⟨rfl, HB.out⟩

set_option maxRecDepth 20000 in
set_option maxHeartbeats 8000000 in
theorem specBlock_any (ls : List (List Int)) (l : List Int) (bs : List Bool) (rs : List (List OpT)) (m : List ResT) (t : Int) (v u : Value) (w : World) (hp : PlanV w v ls l bs rs) (hr : RowR w u m) (hx : ∀ l ∈ rs, ∀ f ∈ l, f.2.2.length ≤ maxLen) (hxm : ∀ f ∈ m, f.1.length ≤ maxLen) :
    Calls Tryz.prog 34 #[v, u, .int .i64 t] w (NumOk (blockA ls l bs rs m t) w) := by
  have HV := Lib.hid hp
  have HR := Lib.hid hr
  obtain ⟨nv, ov, sv, rv, rfl, h1, h2, h3, h4⟩ := hp
  obtain ⟨as0, cs, rfl, hs1, hs2, _⟩ := h3.boolsW
  obtain ⟨an, cn, rfl, hn1, hn2, hatn⟩ := h1.lists
  obtain ⟨ao, co, rfl, ho1, ho2, _⟩ := h2.ints
  obtain ⟨ar, cr, rfl, hr1, hr2, _⟩ := h4.lists
  obtain ⟨am, cm, rfl, hm1, hm2, hatm⟩ := hr.res
  clear h1 h2 h3 h4 hr
  unfold maxLen at hs2 hn2 ho2 hr2 hm2
  obtain ⟨wa, hwa⟩ : ∃ wa, wa = w.alloc (.cells #[.slice an ls.length cn, .slice ao l.length co, .slice as0 bs.length cs, .slice ar rs.length cr] 30) := ⟨_, rfl⟩
  have hsz : w.heap.size < wa.heap.size := by rw [hwa]; simp
  have P0 : Hid (Blk4 wa w.heap.size 30 (.slice an ls.length cn) (.slice ao l.length co) (.slice as0 bs.length cs) (.slice ar rs.length cr)) := by rw [hwa]; exact Blk4.new
  have HA : Hid (Below w.heap.size w wa) := by rw [hwa]; exact (Below.refl w.heap.size w).alloc (Nat.le_refl _) _
  have HWA := Lib.hid hwa
  have HVW : Hid (∀ W, Below wa.heap.size wa W → PlanV W (.agg #[.slice an ls.length cn, .slice ao l.length co, .slice as0 bs.length cs, .slice ar rs.length cr]) ls l bs rs) := fun W h => HV.out.below (bth HA.out h (Nat.le_refl _))
  have HRW : Hid (∀ W, Below wa.heap.size wa W → RowR W (.slice am m.length cm) m) := fun W h => HR.out.below (bth HA.out h (Nat.le_refl _))
  obtain ⟨b, hb⟩ : ∃ b, bothA ls l bs rs m = b := ⟨_, rfl⟩
  obtain ⟨d, hd⟩ : ∃ d, (decide (0 ≤ t) && decide (t < (bs.length : Int))) = d := ⟨_, rfl⟩
  have HC := Lib.hid (specBoth_b hb _ _ wa (HVW.out wa (Below.refl _ _)) (HRW.out wa (Below.refl _ _)) hx hxm)
  obtain ⟨c0, c1, c2, c3⟩ := P0.out.cells
  have HATN := Lib.hid hatn
  have HATM := Lib.hid hatm
  clear hwa hatn hatm hx hxm
  rcases b with _ | _
  · have HT : Hid (inA ls l bs rs m t = false) := in_no hb
    clear hb hd HVW HRW
    go_enter Tryz.func34, Tryz.ntmps34
    go_wp2_with fail
    rw [← HWA.out]
    refine HC.out.mono ?_
    rintro e w1 ⟨rfl, hb1⟩
    have HB1 := Lib.hid (bth HA.out hb1 (Nat.le_refl _))
    clear hb1 c0 c1 c2 c3
    go_wp2_with fail
    go_ret2
    exact ⟨by rw [block_no HT.out] <;> rfl, HB1.out⟩
  have hpl := (both_parts hb).1
  have hml : m.length = ls.length := by have := (both_parts hb).2.2; have := (plan_parts hpl).2.1; omega
  have hbl : bs.length = ls.length := (plan_parts hpl).2.1
  have HIN : Hid (inA ls l bs rs m t = d) := by show _ = _; rw [in_yes hb, hd]
  have HPL := Lib.hid hpl
  have HMB := Lib.hid (both_parts hb).2.2
  have HRA := Lib.hid (both_parts hb).2.1
  have HCT := Lib.hid (fun W (h : Below wa.heap.size wa W) => l7Task_b hd _ W (HVW.out W h))
  rcases d with _ | _
  · clear hb hd hpl hml hbl
    go_enter Tryz.func34, Tryz.ntmps34
    go_wp2_with fail
    rw [← HWA.out]
    refine HC.out.mono ?_
    rintro e w1 ⟨rfl, hb1⟩
    have K1 := Lib.hid hb1
    clear hb1 c0 c1 c2 c3
    obtain ⟨c0, c1, c2, c3⟩ := (P0.out.below K1.out hsz).cells
    go_wp2_with fail
    refine (HCT.out w1 K1.out).mono ?_
    rintro e w2 ⟨rfl, hb2⟩
    have HB2 := Lib.hid (bth HA.out (bth K1.out hb2 (Nat.le_refl _)) (Nat.le_refl _))
    clear hb2 c0 c1 c2 c3
    go_wp2_with fail
    go_ret2
    exact ⟨by rw [block_no HIN.out] <;> rfl, HB2.out⟩
  obtain ⟨j, hj⟩ : ∃ j : Nat, t = j := ⟨t.toNat, by simp only [Bool.and_eq_true, decide_eq_true_eq] at hd; omega⟩
  subst hj
  have hjl : j < ls.length := by simp only [Bool.and_eq_true, decide_eq_true_eq] at hd; omega
  have hjm : j < m.length := by omega
  have HJL := Lib.hid hjl
  have hjz : (j : Int) < (m.length : Int) := by omega
  have hjn : (j : Int) < (ls.length : Int) := by omega
  obtain ⟨g2, o2, rfl, hg2, hm1', hm2'⟩ := HATM.out j hjm
  have HM2 : Hid (∀ W, Below wa.heap.size wa W → W.cell? ⟨g2, o2 + j * 2, none⟩ = some (.string ⟨m[j].1.toArray⟩) ∧ W.cell? ⟨g2, o2 + j * 2 + 1, none⟩ = some (.int .i64 m[j].2)) := fun W h => ⟨((bth HA.out h (Nat.le_refl _)).cell (p := ⟨g2, o2 + j * 2, none⟩) hg2).trans hm1', ((bth HA.out h (Nat.le_refl _)).cell (p := ⟨g2, o2 + j * 2 + 1, none⟩) hg2).trans hm2'⟩
  have hra := resAt_nat hjm
  clear hm1' hm2'
  by_cases hs : m[j].2 = 2
  · have HT : Hid (blockA ls l bs rs m (j : Int) = firstL m ls[j]) := block_yes HIN.out (by rw [hra]; exact hs) hjl
    have e0 : (m[j].2 != 2) = false := by simp [hs]
    have HQ := Lib.hid hs
    clear hb hd hpl hml hbl hra hs
    go_enter Tryz.func34, Tryz.ntmps34
    go_wp2_with fail
    rw [← HWA.out]
    refine HC.out.mono ?_
    rintro e w1 ⟨rfl, hb1⟩
    have K1 := Lib.hid hb1
    clear hb1 c0 c1 c2 c3
    obtain ⟨c0, c1, c2, c3⟩ := (P0.out.below K1.out hsz).cells
    go_wp2_with fail
    refine (HCT.out w1 K1.out).mono ?_
    rintro e w2 ⟨rfl, hb2⟩
    have K2 := Lib.hid (bth K1.out hb2 (Nat.le_refl _))
    clear hb2 c0 c1 c2 c3
    obtain ⟨c0, c1, c2, c3⟩ := (P0.out.below K2.out hsz).cells
    obtain ⟨s1, s2⟩ := HM2.out w2 K2.out
    obtain ⟨gn, on, an2, cn2, rfl, hgn, hcn, hrn⟩ := HATN.out j hjl
    obtain ⟨_, _, hev, hcl, hcm, hatk⟩ := hrn.ints
    injection hev with hea _ hec
    subst hea hec
    unfold maxLen at hcm
    have HATK := Lib.hid hatk
    obtain ⟨hl10, hin⟩ := plan_task HPL.out hjl
    have HIX := Lib.hid hin
    have hs1 : w2.cell? ⟨gn, on + j, none⟩ = some (.slice an2 ls[j].length cn2) := ((bth HA.out K2.out (Nat.le_refl _)).cell (p := ⟨gn, on + j, none⟩) hgn).trans hcn
    have HMLL : Hid (m.length = ls.length) := by have := HMB.out; have := (plan_parts HPL.out).2.1; show _ = _; omega
    clear hatk hin hcn hrn HVW HRW
    go_wp2_with fail
    clear c0 c1 c2 c3 s1 s2 hs1
    go_loopw [35] (fun i wr => ∃ k : Nat, k ≤ ls[j].length ∧ i = .int .i64 k ∧ Hid (Below wa.heap.size wa wr) ∧ Hid (∀ x ∈ ls[j].take k, (resAt m x).2 = 0)) (fun i _ => ls[j].length - (intOf i).toNat)
    case atStart => exact ⟨0, Nat.zero_le _, rfl, K2.out, by simp [Hid]⟩
    case round =>
      obtain ⟨k, hk, rfl, HB, HO⟩ := hrel
      have HBW := Lib.hid (bth HA.out HB.out (Nat.le_refl _))
      by_cases hlt : k < ls[j].length
      · obtain ⟨g, o, rfl, hg, hcell0⟩ := HATK.out k hlt
        have hcell1 := (HBW.out.cell (p := ⟨g, o + k, none⟩) hg).trans hcell0
        obtain ⟨hx0, hx1⟩ := HIX.out _ (List.getElem_mem hlt)
        obtain ⟨y, hy⟩ : ∃ y : Nat, ls[j][k] = y := ⟨(ls[j][k]).toNat, by omega⟩
        have hcell := hcell1.trans (congrArg (fun z => some (Value.int .i64 z)) hy)
        clear hcell1
        have hym : y < m.length := by have := HMLL.out; omega
        obtain ⟨g3, o3, hga, hg3, hm1', hm2'⟩ := HATM.out y hym
        obtain ⟨rfl, rfl⟩ := addr_inj hga
        have s1 := (HBW.out.cell (p := ⟨g2, o2 + y * 2, none⟩) hg3).trans hm1'
        have s2 := (HBW.out.cell (p := ⟨g2, o2 + y * 2 + 1, none⟩) hg3).trans hm2'
        have hra := resAt_nat hym
        have hyz : (y : Int) < (m.length : Int) := by omega
        by_cases hz : m[y].2 = 0
        · have HE : Hid (∀ x ∈ ls[j].take (k + 1), (resAt m x).2 = 0) := take_zero hlt HO.out (by rw [hy, hra]; exact hz)
          have e1 : (m[y].2 != 0) = false := by simp [hz]
          clear hcell0 hx0 hx1 hy hm1' hm2' HO hra hz HATK HATM HIX e0 HATN hga
          generalize m[y] = q at *
          obtain ⟨q1, q2⟩ := q
          simp only at s1 s2 e1
          obtain ⟨c0, c1, c2, c3⟩ := (P0.out.below HB.out hsz).cells
          go_wp2_with fail
          go_roundw
          case rel => exact ⟨k + 1, by omega, by go_num, HB, HE⟩
          case measure => simp [intOf]; omega
        · have HE : Hid (blockA ls l bs rs m (j : Int) = ((y : Int), true)) := by show _ = _; rw [HT.out, first_yes hlt HO.out (by rw [hy, hra]; exact hz), hy]
          have e1 : (m[y].2 != 0) = true := by simp [hz]
          clear hcell0 hx0 hx1 hy hm1' hm2' HO hra hz HATK HATM HIX e0 HATN hga
          generalize m[y] = q at *
          obtain ⟨q1, q2⟩ := q
          simp only at s1 s2 e1
          obtain ⟨c0, c1, c2, c3⟩ := (P0.out.below HB.out hsz).cells
          go_wp2_with fail
          go_ret2
          exact ⟨by rw [HE.out] <;> rfl, HBW.out⟩
      · have HE : Hid (blockA ls l bs rs m (j : Int) = (0, false)) := by show _ = _; rw [HT.out]; exact first_no (by have := HO.out; rwa [List.take_of_length_le (by omega)] at this)
        clear HO HATK HATM HIX HATN
        go_wp2_with fail
        go_ret2
        exact ⟨by rw [HE.out] <;> rfl, HBW.out⟩
  · have HT : Hid (blockA ls l bs rs m (j : Int) = (0, false)) := block_un (by rw [hra]; exact hs)
    have e0 : (m[j].2 != 2) = true := by simp [hs]
    clear hb hd hpl hml hbl hra hs
    go_enter Tryz.func34, Tryz.ntmps34
    go_wp2_with fail
    rw [← HWA.out]
    refine HC.out.mono ?_
    rintro e w1 ⟨rfl, hb1⟩
    have K1 := Lib.hid hb1
    clear hb1 c0 c1 c2 c3
    obtain ⟨c0, c1, c2, c3⟩ := (P0.out.below K1.out hsz).cells
    go_wp2_with fail
    refine (HCT.out w1 K1.out).mono ?_
    rintro e w2 ⟨rfl, hb2⟩
    have K2 := Lib.hid (bth K1.out hb2 (Nat.le_refl _))
    clear hb2 c0 c1 c2 c3
    obtain ⟨c0, c1, c2, c3⟩ := (P0.out.below K2.out hsz).cells
    obtain ⟨s1, s2⟩ := HM2.out w2 K2.out
    go_wp2_with fail
    go_ret2
    exact ⟨by rw [HT.out] <;> rfl, bth HA.out K2.out (Nat.le_refl _)⟩

set_option maxRecDepth 20000 in
set_option maxHeartbeats 8000000 in
theorem implBlock_any (ls : List (List Int)) (l : List Int) (bs : List Bool) (rs : List (List OpT)) (m : List ResT) (t : Int) (v u : Value) (w : World) (hp : PlanV w v ls l bs rs) (hr : RowR w u m) (hx : ∀ l ∈ rs, ∀ f ∈ l, f.2.2.length ≤ maxLen) (hxm : ∀ f ∈ m, f.1.length ≤ maxLen) :
    Calls Tryz.prog 22 #[v, u, .int .i64 t] w (NumOk (blockA ls l bs rs m t) w) := by
  have HV := Lib.hid hp
  have HR := Lib.hid hr
  obtain ⟨nv, ov, sv, rv, rfl, h1, h2, h3, h4⟩ := hp
  obtain ⟨as0, cs, rfl, hs1, hs2, _⟩ := h3.boolsW
  obtain ⟨an, cn, rfl, hn1, hn2, hatn⟩ := h1.lists
  obtain ⟨ao, co, rfl, ho1, ho2, _⟩ := h2.ints
  obtain ⟨ar, cr, rfl, hr1, hr2, _⟩ := h4.lists
  obtain ⟨am, cm, rfl, hm1, hm2, hatm⟩ := hr.res
  clear h1 h2 h3 h4 hr
  unfold maxLen at hs2 hn2 ho2 hr2 hm2
  obtain ⟨wa, hwa⟩ : ∃ wa, wa = w.alloc (.cells #[.slice an ls.length cn, .slice ao l.length co, .slice as0 bs.length cs, .slice ar rs.length cr] 30) := ⟨_, rfl⟩
  have hsz : w.heap.size < wa.heap.size := by rw [hwa]; simp
  have P0 : Hid (Blk4 wa w.heap.size 30 (.slice an ls.length cn) (.slice ao l.length co) (.slice as0 bs.length cs) (.slice ar rs.length cr)) := by rw [hwa]; exact Blk4.new
  have HA : Hid (Below w.heap.size w wa) := by rw [hwa]; exact (Below.refl w.heap.size w).alloc (Nat.le_refl _) _
  have HWA := Lib.hid hwa
  have HVW : Hid (∀ W, Below wa.heap.size wa W → PlanV W (.agg #[.slice an ls.length cn, .slice ao l.length co, .slice as0 bs.length cs, .slice ar rs.length cr]) ls l bs rs) := fun W h => HV.out.below (bth HA.out h (Nat.le_refl _))
  have HRW : Hid (∀ W, Below wa.heap.size wa W → RowR W (.slice am m.length cm) m) := fun W h => HR.out.below (bth HA.out h (Nat.le_refl _))
  obtain ⟨b, hb⟩ : ∃ b, bothA ls l bs rs m = b := ⟨_, rfl⟩
  obtain ⟨d, hd⟩ : ∃ d, (decide (0 ≤ t) && decide (t < (bs.length : Int))) = d := ⟨_, rfl⟩
  have HC := Lib.hid (implBoth_b hb _ _ wa (HVW.out wa (Below.refl _ _)) (HRW.out wa (Below.refl _ _)) hx hxm)
  obtain ⟨c0, c1, c2, c3⟩ := P0.out.cells
  have HATN := Lib.hid hatn
  have HATM := Lib.hid hatm
  clear hwa hatn hatm hx hxm
  rcases b with _ | _
  · have HT : Hid (inA ls l bs rs m t = false) := in_no hb
    clear hb hd HVW HRW
    go_enter Tryz.func22, Tryz.ntmps22
    go_wp2_with fail
    rw [← HWA.out]
    refine HC.out.mono ?_
    rintro e w1 ⟨rfl, hb1⟩
    have HB1 := Lib.hid (bth HA.out hb1 (Nat.le_refl _))
    clear hb1 c0 c1 c2 c3
    go_wp2_with fail
    go_ret2
    exact ⟨by rw [block_no HT.out] <;> rfl, HB1.out⟩
  have hpl := (both_parts hb).1
  have hml : m.length = ls.length := by have := (both_parts hb).2.2; have := (plan_parts hpl).2.1; omega
  have hbl : bs.length = ls.length := (plan_parts hpl).2.1
  have HIN : Hid (inA ls l bs rs m t = d) := by show _ = _; rw [in_yes hb, hd]
  have HPL := Lib.hid hpl
  have HMB := Lib.hid (both_parts hb).2.2
  have HRA := Lib.hid (both_parts hb).2.1
  have HCT : Hid (∀ W, Below wa.heap.size wa W → Calls Tryz.prog 81 #[.agg #[.slice an ls.length cn, .slice ao l.length co], .int .i64 t] W fun e w' => e = .returned (.bool d) ∧ Below W.heap.size W w') := fun W h => by
    obtain ⟨_, _, _, _, he, k1, k2, _, _⟩ := HVW.out W h
    injection he with he
    simp only [Array.mk.injEq, List.cons.injEq, and_true] at he
    obtain ⟨rfl, rfl, _, _⟩ := he
    exact isTask_b (ls := ls) (l := l) ⟨_, _, rfl, k1, k2⟩ (by rw [← hd, hbl])
  rcases d with _ | _
  · clear hb hd hpl hml hbl
    go_enter Tryz.func22, Tryz.ntmps22
    go_wp2_with fail
    rw [← HWA.out]
    refine HC.out.mono ?_
    rintro e w1 ⟨rfl, hb1⟩
    have K1 := Lib.hid hb1
    clear hb1 c0 c1 c2 c3
    obtain ⟨c0, c1, c2, c3⟩ := (P0.out.below K1.out hsz).cells
    go_wp2_with fail
    refine (HCT.out w1 K1.out).mono ?_
    rintro e w2 ⟨rfl, hb2⟩
    have HB2 := Lib.hid (bth HA.out (bth K1.out hb2 (Nat.le_refl _)) (Nat.le_refl _))
    clear hb2 c0 c1 c2 c3
    go_wp2_with fail
    go_ret2
    exact ⟨by rw [block_no HIN.out] <;> rfl, HB2.out⟩
  obtain ⟨j, hj⟩ : ∃ j : Nat, t = j := ⟨t.toNat, by simp only [Bool.and_eq_true, decide_eq_true_eq] at hd; omega⟩
  subst hj
  have hjl : j < ls.length := by simp only [Bool.and_eq_true, decide_eq_true_eq] at hd; omega
  have hjm : j < m.length := by omega
  have HJL := Lib.hid hjl
  have hjz : (j : Int) < (m.length : Int) := by omega
  have hjn : (j : Int) < (ls.length : Int) := by omega
  obtain ⟨g2, o2, rfl, hg2, hm1', hm2'⟩ := HATM.out j hjm
  have HM2 : Hid (∀ W, Below wa.heap.size wa W → W.cell? ⟨g2, o2 + j * 2, none⟩ = some (.string ⟨m[j].1.toArray⟩) ∧ W.cell? ⟨g2, o2 + j * 2 + 1, none⟩ = some (.int .i64 m[j].2)) := fun W h => ⟨((bth HA.out h (Nat.le_refl _)).cell (p := ⟨g2, o2 + j * 2, none⟩) hg2).trans hm1', ((bth HA.out h (Nat.le_refl _)).cell (p := ⟨g2, o2 + j * 2 + 1, none⟩) hg2).trans hm2'⟩
  have hra := resAt_nat hjm
  clear hm1' hm2'
  by_cases hs : m[j].2 = 2
  · have HT : Hid (blockA ls l bs rs m (j : Int) = firstL m ls[j]) := block_yes HIN.out (by rw [hra]; exact hs) hjl
    have e0 : (m[j].2 != 2) = false := by simp [hs]
    have HQ := Lib.hid hs
    clear hb hd hpl hml hbl hra hs
    go_enter Tryz.func22, Tryz.ntmps22
    go_wp2_with fail
    rw [← HWA.out]
    refine HC.out.mono ?_
    rintro e w1 ⟨rfl, hb1⟩
    have K1 := Lib.hid hb1
    clear hb1 c0 c1 c2 c3
    obtain ⟨c0, c1, c2, c3⟩ := (P0.out.below K1.out hsz).cells
    go_wp2_with fail
    refine (HCT.out w1 K1.out).mono ?_
    rintro e w2 ⟨rfl, hb2⟩
    have K2 := Lib.hid (bth K1.out hb2 (Nat.le_refl _))
    clear hb2 c0 c1 c2 c3
    obtain ⟨c0, c1, c2, c3⟩ := (P0.out.below K2.out hsz).cells
    obtain ⟨s1, s2⟩ := HM2.out w2 K2.out
    go_wp2_with fail
    refine (first_any ls l bs rs m j _ _ w2 (HVW.out w2 K2.out) (HRW.out w2 K2.out) HPL.out HMB.out hjl).mono ?_
    rintro e w3 ⟨rfl, hb3⟩
    have HB3 := Lib.hid (bth HA.out (bth K2.out hb3 (Nat.le_refl _)) (Nat.le_refl _))
    clear hb3 c0 c1 c2 c3 s1 s2
    go_wp2_with fail
    go_ret2
    exact ⟨by rw [HT.out] <;> rfl, HB3.out⟩
  · have HT : Hid (blockA ls l bs rs m (j : Int) = (0, false)) := block_un (by rw [hra]; exact hs)
    have e0 : (m[j].2 != 2) = true := by simp [hs]
    clear hb hd hpl hml hbl hra hs
    go_enter Tryz.func22, Tryz.ntmps22
    go_wp2_with fail
    rw [← HWA.out]
    refine HC.out.mono ?_
    rintro e w1 ⟨rfl, hb1⟩
    have K1 := Lib.hid hb1
    clear hb1 c0 c1 c2 c3
    obtain ⟨c0, c1, c2, c3⟩ := (P0.out.below K1.out hsz).cells
    go_wp2_with fail
    refine (HCT.out w1 K1.out).mono ?_
    rintro e w2 ⟨rfl, hb2⟩
    have K2 := Lib.hid (bth K1.out hb2 (Nat.le_refl _))
    clear hb2 c0 c1 c2 c3
    obtain ⟨c0, c1, c2, c3⟩ := (P0.out.below K2.out hsz).cells
    obtain ⟨s1, s2⟩ := HM2.out w2 K2.out
    go_wp2_with fail
    go_ret2
    exact ⟨by rw [HT.out] <;> rfl, bth HA.out K2.out (Nat.le_refl _)⟩

end Go.Proofs.YtcfhfhpdnjaokaaGreatDoor

/- Walks: what is made of results as they are, as it is told, of the reference and of the program. -/
namespace Go.Proofs.YtcfhfhpdnjaokaaGreatDoor
open Go.RowKit Pth

/-- What is made of results, and whether it stands. -/
noncomputable def makeA (ls : List (List Int)) (l : List Int) (bs : List Bool) (rs : List (List OpT)) (m : List ResT) (t : Int) : ResT × Bool :=
  if inA ls l bs rs m t && !bs.getD t.toNat false then (makeM ls rs m t.toNat, true) else (noRes, false)
theorem makeA_no {ls : List (List Int)} {l : List Int} {bs : List Bool} {rs : List (List OpT)} {m : List ResT} {t : Int} (h : (inA ls l bs rs m t && !bs.getD t.toNat false) = false) : makeA ls l bs rs m t = (noRes, false) := by unfold makeA; rw [h]; rfl
theorem makeA_yes {ls : List (List Int)} {l : List Int} {bs : List Bool} {rs : List (List OpT)} {m : List ResT} {j : Nat} (h : inA ls l bs rs m (j : Int) = true) (hj : j < bs.length) (hq : bs[j] = false) : makeA ls l bs rs m (j : Int) = (makeM ls rs m j, true) := by
  unfold makeA; rw [h, Int.toNat_natCast, getD_at _ hj, hq]; rfl

set_option maxRecDepth 20000 in
set_option maxHeartbeats 8000000 in
theorem specMakeOne_any (ls : List (List Int)) (l : List Int) (bs : List Bool) (rs : List (List OpT)) (m : List ResT) (t : Int) (v u : Value) (w : World) (hp : PlanV w v ls l bs rs) (hr : RowR w u m) (hx : ∀ l ∈ rs, ∀ f ∈ l, f.2.2.length ≤ maxLen) (hxm : ∀ f ∈ m, f.1.length ≤ maxLen) :
    Calls Tryz.prog 30 #[v, u, .int .i64 t] w fun e w' => e = .returned (.tuple #[resV (makeA ls l bs rs m t).1, .bool (makeA ls l bs rs m t).2]) ∧ Below w.heap.size w w' := by
  have HV := Lib.hid hp
  obtain ⟨nv, ov, sv, rv, rfl, h1, h2, h3, h4⟩ := hp
  obtain ⟨as0, cs, rfl, hs1, hs2, hats⟩ := h3.boolsW
  obtain ⟨an, cn, rfl, hn1, hn2, _⟩ := h1.lists
  obtain ⟨ao, co, rfl, ho1, ho2, _⟩ := h2.ints
  obtain ⟨ar, cr, rfl, hr1, hr2, _⟩ := h4.lists
  clear h1 h2 h3 h4
  have HR := Lib.hid hr
  obtain ⟨am, cm, rfl, hm1, hm2, _⟩ := hr.res
  clear hr
  unfold maxLen at hs2 hn2 ho2 hr2 hm2
  obtain ⟨wp, hwp⟩ : ∃ wp, wp = w.alloc (.cells #[.slice an ls.length cn, .slice ao l.length co, .slice as0 bs.length cs, .slice ar rs.length cr] 30) := ⟨_, rfl⟩
  obtain ⟨wa, hwa⟩ : ∃ wa, wa = wp.alloc (.cells #[.string ⟨#[]⟩, .int .i64 0] 41) := ⟨_, rfl⟩
  have ep : wp.heap.size = w.heap.size + 1 := by rw [hwp]; simp
  have ea : wa.heap.size = w.heap.size + 2 := by rw [hwa]; simp [ep]
  have P0 : Hid (Blk4 wa w.heap.size 30 (.slice an ls.length cn) (.slice ao l.length co) (.slice as0 bs.length cs) (.slice ar rs.length cr)) := by rw [hwa, hwp]; exact Blk4.new.old _
  have R0 : Hid (Blk2 wa (w.heap.size + 1) 41 (.string ⟨#[]⟩) (.int .i64 0)) := by rw [hwa, ← ep]; exact Blk2.new
  have HA : Hid (Below w.heap.size w wa) := by rw [hwa, hwp]; exact ((Below.refl w.heap.size w).alloc (Nat.le_refl _) _).alloc (by simp) _
  have HWA : Hid ((w.alloc (.cells #[.slice an ls.length cn, .slice ao l.length co, .slice as0 bs.length cs, .slice ar rs.length cr] 30)).alloc (.cells #[.string ⟨#[]⟩, .int .i64 0] 41) = wa) := by rw [hwa, hwp]; rfl
  have hsz : w.heap.size < wa.heap.size := by omega
  have hsz1 : w.heap.size + 1 < wa.heap.size := by omega
  clear hwa hwp ep
  have HVW : Hid (∀ W, Below wa.heap.size wa W → PlanV W (.agg #[.slice an ls.length cn, .slice ao l.length co, .slice as0 bs.length cs, .slice ar rs.length cr]) ls l bs rs) := fun W h => HV.out.below (bth HA.out h (Nat.le_refl _))
  have HRW : Hid (∀ W, Below wa.heap.size wa W → RowR W (.slice am m.length cm) m) := fun W h => HR.out.below (bth HA.out h (Nat.le_refl _))
  obtain ⟨b, hb⟩ : ∃ b, bothA ls l bs rs m = b := ⟨_, rfl⟩
  obtain ⟨d, hd⟩ : ∃ d, (decide (0 ≤ t) && decide (t < (bs.length : Int))) = d := ⟨_, rfl⟩
  have HC := Lib.hid (specBoth_b hb _ _ wa (HVW.out wa (Below.refl _ _)) (HRW.out wa (Below.refl _ _)) hx hxm)
  obtain ⟨c0, c1, c2, c3⟩ := P0.out.cells
  have HATS := Lib.hid hats
  clear hats hx hxm
  rcases b with _ | _
  · have HT : Hid (makeA ls l bs rs m t = (noRes, false)) := makeA_no (by rw [in_no hb]; rfl)
    clear hb hd HVW HRW
    go_enter Tryz.func30, Tryz.ntmps30
    go_wp2_with fail
    rw [HWA.out]
    refine HC.out.mono ?_
    rintro e w1 ⟨rfl, hb1⟩
    have K1 := Lib.hid hb1
    clear hb1 c0 c1 c2 c3
    have hRB := R0.out.below K1.out hsz1
    have HRB := Lib.hid hRB
    obtain ⟨r0, r1⟩ := hRB.cells
    have z0 := hRB.soft 0
    have z1 := hRB.soft 1
    clear hRB
    go_wp2_with fail
    have hZ := (HRB.out.set0 (.string ByteArray.empty)).set1 (.int .i64 0)
    refine bodyPost_ret (results_cell2 rfl rfl (load_res hZ.cells.1 hZ.cells.2)) rfl ?_
    exact ⟨by rw [HT.out] <;> rfl, ((bth HA.out K1.out (Nat.le_refl _)).setCell (p := ⟨w.heap.size + 1, 0, none⟩) (by show _ ≤ _ + 1; omega) _).setCell (p := ⟨w.heap.size + 1, 1, none⟩) (by show _ ≤ _ + 1; omega) _⟩
  have hpl := (both_parts hb).1
  have hml : m.length = ls.length := by have := (both_parts hb).2.2; have := (plan_parts hpl).2.1; omega
  have hbl : bs.length = ls.length := (plan_parts hpl).2.1
  have hin : inA ls l bs rs m t = d := by rw [in_yes hb, hd]
  have HPL := Lib.hid hpl
  have HMB := Lib.hid (both_parts hb).2.2
  have HRA := Lib.hid (both_parts hb).2.1
  have HCT := Lib.hid (fun W (h : Below wa.heap.size wa W) => l7Task_b hd _ W (HVW.out W h))
  rcases d with _ | _
  · have HT : Hid (makeA ls l bs rs m t = (noRes, false)) := makeA_no (by rw [hin]; rfl)
    clear hb hd hpl hml hbl hin
    go_enter Tryz.func30, Tryz.ntmps30
    go_wp2_with fail
    rw [HWA.out]
    refine HC.out.mono ?_
    rintro e w1 ⟨rfl, hb1⟩
    have K1 := Lib.hid hb1
    clear hb1 c0 c1 c2 c3
    obtain ⟨c0, c1, c2, c3⟩ := (P0.out.below K1.out hsz).cells
    go_wp2_with fail
    refine (HCT.out w1 K1.out).mono ?_
    rintro e w2 ⟨rfl, hb2⟩
    have K2 := Lib.hid (bth K1.out hb2 (Nat.le_refl _))
    clear hb2 c0 c1 c2 c3
    have hRB := R0.out.below K2.out hsz1
    have HRB := Lib.hid hRB
    obtain ⟨r0, r1⟩ := hRB.cells
    have z0 := hRB.soft 0
    have z1 := hRB.soft 1
    clear hRB
    go_wp2_with fail
    have hZ := (HRB.out.set0 (.string ByteArray.empty)).set1 (.int .i64 0)
    refine bodyPost_ret (results_cell2 rfl rfl (load_res hZ.cells.1 hZ.cells.2)) rfl ?_
    exact ⟨by rw [HT.out] <;> rfl, ((bth HA.out K2.out (Nat.le_refl _)).setCell (p := ⟨w.heap.size + 1, 0, none⟩) (by show _ ≤ _ + 1; omega) _).setCell (p := ⟨w.heap.size + 1, 1, none⟩) (by show _ ≤ _ + 1; omega) _⟩
  obtain ⟨j, hj⟩ : ∃ j : Nat, t = j := ⟨t.toNat, by simp only [Bool.and_eq_true, decide_eq_true_eq] at hd; omega⟩
  subst hj
  have hjl : j < ls.length := by simp only [Bool.and_eq_true, decide_eq_true_eq] at hd; omega
  have hjb : j < bs.length := by omega
  have hjz : (j : Int) < (bs.length : Int) := by omega
  obtain ⟨gs, os, rfl, hgs, hcs⟩ := HATS.out j hjb
  have HSC : Hid (wa.cell? ⟨gs, os + j, none⟩ = some (.bool bs[j])) := (HA.out.cell (p := ⟨gs, os + j, none⟩) hgs).trans hcs
  have hgw : gs < wa.heap.size := by omega
  have HSRC : Hid (∀ W, Below wa.heap.size wa W → W.cell? ⟨gs, os + j, none⟩ = some (.bool bs[j])) := fun W h => (h.cell (p := ⟨gs, os + j, none⟩) hgw).trans HSC.out
  have HMK := Lib.hid (fun W (h : Below wa.heap.size wa W) => specMake_any ls l bs rs m j _ _ W (HVW.out W h) (HRW.out W h) hpl HMB.out hjl (resA_small HRA.out).2)
  obtain ⟨q, hq⟩ : ∃ q, bs[j] = q := ⟨_, rfl⟩
  rw [hq] at HSRC
  rcases q with _ | _
  · have HT : Hid (makeA ls l bs rs m (j : Int) = (makeM ls rs m j, true)) := makeA_yes hin hjb hq
    rw [HT.out]
    clear hb hd hpl hml hbl hin hcs HSC HT hq HATS
    generalize makeM ls rs m j = M at *
    obtain ⟨M1, M2⟩ := M
    unfold resV at HMK ⊢
    simp only at HMK ⊢
    go_enter Tryz.func30, Tryz.ntmps30
    go_wp2_with fail
    rw [HWA.out]
    refine HC.out.mono ?_
    rintro e w1 ⟨rfl, hb1⟩
    have K1 := Lib.hid hb1
    clear hb1 c0 c1 c2 c3
    obtain ⟨c0, c1, c2, c3⟩ := (P0.out.below K1.out hsz).cells
    go_wp2_with fail
    refine (HCT.out w1 K1.out).mono ?_
    rintro e w2 ⟨rfl, hb2⟩
    have K2 := Lib.hid (bth K1.out hb2 (Nat.le_refl _))
    clear hb2 c0 c1 c2 c3
    obtain ⟨c0, c1, c2, c3⟩ := (P0.out.below K2.out hsz).cells
    have hsc := HSRC.out w2 K2.out
    go_wp2_with fail
    refine (HMK.out w2 K2.out).mono ?_
    rintro e w3 ⟨rfl, hb3⟩
    have K3 := Lib.hid (bth K2.out hb3 (Nat.le_refl _))
    clear hb3 c0 c1 c2 c3 hsc
    have hRB := R0.out.below K3.out hsz1
    have HRB := Lib.hid hRB
    obtain ⟨r0, r1⟩ := hRB.cells
    have z0 := hRB.soft 0
    have z1 := hRB.soft 1
    clear hRB
    go_wp2_with fail
    have hZ := (HRB.out.set0 (.string ⟨M1.toArray⟩)).set1 (.int .i64 M2)
    refine bodyPost_ret (results_cell2 rfl rfl (load_res hZ.cells.1 hZ.cells.2)) rfl ?_
    exact ⟨rfl, ((bth HA.out K3.out (Nat.le_refl _)).setCell (p := ⟨w.heap.size + 1, 0, none⟩) (by show _ ≤ _ + 1; omega) _).setCell (p := ⟨w.heap.size + 1, 1, none⟩) (by show _ ≤ _ + 1; omega) _⟩
  · have HT : Hid (makeA ls l bs rs m (j : Int) = (noRes, false)) := makeA_no (by rw [List.getD_eq_getElem?_getD, Int.toNat_natCast, List.getElem?_eq_getElem hjb, hq]; simp)
    clear hb hd hpl hml hbl hin hcs HSC hq HATS HMK
    go_enter Tryz.func30, Tryz.ntmps30
    go_wp2_with fail
    rw [HWA.out]
    refine HC.out.mono ?_
    rintro e w1 ⟨rfl, hb1⟩
    have K1 := Lib.hid hb1
    clear hb1 c0 c1 c2 c3
    obtain ⟨c0, c1, c2, c3⟩ := (P0.out.below K1.out hsz).cells
    go_wp2_with fail
    refine (HCT.out w1 K1.out).mono ?_
    rintro e w2 ⟨rfl, hb2⟩
    have K2 := Lib.hid (bth K1.out hb2 (Nat.le_refl _))
    clear hb2 c0 c1 c2 c3
    obtain ⟨c0, c1, c2, c3⟩ := (P0.out.below K2.out hsz).cells
    have hsc := HSRC.out w2 K2.out
    have hRB := R0.out.below K2.out hsz1
    have HRB := Lib.hid hRB
    obtain ⟨r0, r1⟩ := hRB.cells
    have z0 := hRB.soft 0
    have z1 := hRB.soft 1
    clear hRB
    go_wp2_with fail
    have hZ := (HRB.out.set0 (.string ByteArray.empty)).set1 (.int .i64 0)
    refine bodyPost_ret (results_cell2 rfl rfl (load_res hZ.cells.1 hZ.cells.2)) rfl ?_
    exact ⟨by rw [HT.out] <;> rfl, ((bth HA.out K2.out (Nat.le_refl _)).setCell (p := ⟨w.heap.size + 1, 0, none⟩) (by show _ ≤ _ + 1; omega) _).setCell (p := ⟨w.heap.size + 1, 1, none⟩) (by show _ ≤ _ + 1; omega) _⟩

set_option maxRecDepth 20000 in
set_option maxHeartbeats 8000000 in
theorem implMakeOne_any (ls : List (List Int)) (l : List Int) (bs : List Bool) (rs : List (List OpT)) (m : List ResT) (t : Int) (v u : Value) (w : World) (hp : PlanV w v ls l bs rs) (hr : RowR w u m) (hx : ∀ l ∈ rs, ∀ f ∈ l, f.2.2.length ≤ maxLen) (hxm : ∀ f ∈ m, f.1.length ≤ maxLen) :
    Calls Tryz.prog 21 #[v, u, .int .i64 t] w fun e w' => e = .returned (.tuple #[resV (makeA ls l bs rs m t).1, .bool (makeA ls l bs rs m t).2]) ∧ Below w.heap.size w w' := by
  have HV := Lib.hid hp
  obtain ⟨nv, ov, sv, rv, rfl, h1, h2, h3, h4⟩ := hp
  obtain ⟨as0, cs, rfl, hs1, hs2, hats⟩ := h3.boolsW
  obtain ⟨an, cn, rfl, hn1, hn2, _⟩ := h1.lists
  obtain ⟨ao, co, rfl, ho1, ho2, _⟩ := h2.ints
  obtain ⟨ar, cr, rfl, hr1, hr2, _⟩ := h4.lists
  clear h1 h2 h3 h4
  have HR := Lib.hid hr
  obtain ⟨am, cm, rfl, hm1, hm2, _⟩ := hr.res
  clear hr
  unfold maxLen at hs2 hn2 ho2 hr2 hm2
  obtain ⟨wp, hwp⟩ : ∃ wp, wp = w.alloc (.cells #[.slice an ls.length cn, .slice ao l.length co, .slice as0 bs.length cs, .slice ar rs.length cr] 30) := ⟨_, rfl⟩
  obtain ⟨wa, hwa⟩ : ∃ wa, wa = wp.alloc (.cells #[.string ⟨#[]⟩, .int .i64 0] 41) := ⟨_, rfl⟩
  have ep : wp.heap.size = w.heap.size + 1 := by rw [hwp]; simp
  have ea : wa.heap.size = w.heap.size + 2 := by rw [hwa]; simp [ep]
  have P0 : Hid (Blk4 wa w.heap.size 30 (.slice an ls.length cn) (.slice ao l.length co) (.slice as0 bs.length cs) (.slice ar rs.length cr)) := by rw [hwa, hwp]; exact Blk4.new.old _
  have R0 : Hid (Blk2 wa (w.heap.size + 1) 41 (.string ⟨#[]⟩) (.int .i64 0)) := by rw [hwa, ← ep]; exact Blk2.new
  have HA : Hid (Below w.heap.size w wa) := by rw [hwa, hwp]; exact ((Below.refl w.heap.size w).alloc (Nat.le_refl _) _).alloc (by simp) _
  have HWA : Hid ((w.alloc (.cells #[.slice an ls.length cn, .slice ao l.length co, .slice as0 bs.length cs, .slice ar rs.length cr] 30)).alloc (.cells #[.string ⟨#[]⟩, .int .i64 0] 41) = wa) := by rw [hwa, hwp]; rfl
  have hsz : w.heap.size < wa.heap.size := by omega
  have hsz1 : w.heap.size + 1 < wa.heap.size := by omega
  clear hwa hwp ep
  have HVW : Hid (∀ W, Below wa.heap.size wa W → PlanV W (.agg #[.slice an ls.length cn, .slice ao l.length co, .slice as0 bs.length cs, .slice ar rs.length cr]) ls l bs rs) := fun W h => HV.out.below (bth HA.out h (Nat.le_refl _))
  have HRW : Hid (∀ W, Below wa.heap.size wa W → RowR W (.slice am m.length cm) m) := fun W h => HR.out.below (bth HA.out h (Nat.le_refl _))
  obtain ⟨b, hb⟩ : ∃ b, bothA ls l bs rs m = b := ⟨_, rfl⟩
  obtain ⟨d, hd⟩ : ∃ d, (decide (0 ≤ t) && decide (t < (bs.length : Int))) = d := ⟨_, rfl⟩
  have HC := Lib.hid (implBoth_b hb _ _ wa (HVW.out wa (Below.refl _ _)) (HRW.out wa (Below.refl _ _)) hx hxm)
  obtain ⟨c0, c1, c2, c3⟩ := P0.out.cells
  have HATS := Lib.hid hats
  clear hats hx hxm
  rcases b with _ | _
  · have HT : Hid (makeA ls l bs rs m t = (noRes, false)) := makeA_no (by rw [in_no hb]; rfl)
    clear hb hd HVW HRW
    go_enter Tryz.func21, Tryz.ntmps21
    go_wp2_with fail
    rw [HWA.out]
    refine HC.out.mono ?_
    rintro e w1 ⟨rfl, hb1⟩
    have K1 := Lib.hid hb1
    clear hb1 c0 c1 c2 c3
    have hRB := R0.out.below K1.out hsz1
    have HRB := Lib.hid hRB
    obtain ⟨r0, r1⟩ := hRB.cells
    have z0 := hRB.soft 0
    have z1 := hRB.soft 1
    clear hRB
    go_wp2_with fail
    have hZ := (HRB.out.set0 (.string ByteArray.empty)).set1 (.int .i64 0)
    refine bodyPost_ret (results_cell2 rfl rfl (load_res hZ.cells.1 hZ.cells.2)) rfl ?_
    exact ⟨by rw [HT.out] <;> rfl, ((bth HA.out K1.out (Nat.le_refl _)).setCell (p := ⟨w.heap.size + 1, 0, none⟩) (by show _ ≤ _ + 1; omega) _).setCell (p := ⟨w.heap.size + 1, 1, none⟩) (by show _ ≤ _ + 1; omega) _⟩
  have hpl := (both_parts hb).1
  have hml : m.length = ls.length := by have := (both_parts hb).2.2; have := (plan_parts hpl).2.1; omega
  have hbl : bs.length = ls.length := (plan_parts hpl).2.1
  have hin : inA ls l bs rs m t = d := by rw [in_yes hb, hd]
  have HPL := Lib.hid hpl
  have HMB := Lib.hid (both_parts hb).2.2
  have HRA := Lib.hid (both_parts hb).2.1
  have HCT : Hid (∀ W, Below wa.heap.size wa W → Calls Tryz.prog 81 #[.agg #[.slice an ls.length cn, .slice ao l.length co], .int .i64 t] W fun e w' => e = .returned (.bool d) ∧ Below W.heap.size W w') := fun W h => by
    obtain ⟨_, _, _, _, he, k1, k2, _, _⟩ := HVW.out W h
    injection he with he
    simp only [Array.mk.injEq, List.cons.injEq, and_true] at he
    obtain ⟨rfl, rfl, _, _⟩ := he
    exact isTask_b (ls := ls) (l := l) ⟨_, _, rfl, k1, k2⟩ (by rw [← hd, hbl])
  rcases d with _ | _
  · have HT : Hid (makeA ls l bs rs m t = (noRes, false)) := makeA_no (by rw [hin]; rfl)
    clear hb hd hpl hml hbl hin
    go_enter Tryz.func21, Tryz.ntmps21
    go_wp2_with fail
    rw [HWA.out]
    refine HC.out.mono ?_
    rintro e w1 ⟨rfl, hb1⟩
    have K1 := Lib.hid hb1
    clear hb1 c0 c1 c2 c3
    obtain ⟨c0, c1, c2, c3⟩ := (P0.out.below K1.out hsz).cells
    go_wp2_with fail
    refine (HCT.out w1 K1.out).mono ?_
    rintro e w2 ⟨rfl, hb2⟩
    have K2 := Lib.hid (bth K1.out hb2 (Nat.le_refl _))
    clear hb2 c0 c1 c2 c3
    have hRB := R0.out.below K2.out hsz1
    have HRB := Lib.hid hRB
    obtain ⟨r0, r1⟩ := hRB.cells
    have z0 := hRB.soft 0
    have z1 := hRB.soft 1
    clear hRB
    go_wp2_with fail
    have hZ := (HRB.out.set0 (.string ByteArray.empty)).set1 (.int .i64 0)
    refine bodyPost_ret (results_cell2 rfl rfl (load_res hZ.cells.1 hZ.cells.2)) rfl ?_
    exact ⟨by rw [HT.out] <;> rfl, ((bth HA.out K2.out (Nat.le_refl _)).setCell (p := ⟨w.heap.size + 1, 0, none⟩) (by show _ ≤ _ + 1; omega) _).setCell (p := ⟨w.heap.size + 1, 1, none⟩) (by show _ ≤ _ + 1; omega) _⟩
  obtain ⟨j, hj⟩ : ∃ j : Nat, t = j := ⟨t.toNat, by simp only [Bool.and_eq_true, decide_eq_true_eq] at hd; omega⟩
  subst hj
  have hjl : j < ls.length := by simp only [Bool.and_eq_true, decide_eq_true_eq] at hd; omega
  have hjb : j < bs.length := by omega
  have hjz : (j : Int) < (bs.length : Int) := by omega
  obtain ⟨gs, os, rfl, hgs, hcs⟩ := HATS.out j hjb
  have HSC : Hid (wa.cell? ⟨gs, os + j, none⟩ = some (.bool bs[j])) := (HA.out.cell (p := ⟨gs, os + j, none⟩) hgs).trans hcs
  have hgw : gs < wa.heap.size := by omega
  have HSRC : Hid (∀ W, Below wa.heap.size wa W → W.cell? ⟨gs, os + j, none⟩ = some (.bool bs[j])) := fun W h => (h.cell (p := ⟨gs, os + j, none⟩) hgw).trans HSC.out
  have HMK := Lib.hid (fun W (h : Below wa.heap.size wa W) => makeTask_of ls l bs rs m j _ _ W (HVW.out W h) (HRW.out W h) hpl HMB.out hjl (resA_small HRA.out).2)
  obtain ⟨q, hq⟩ : ∃ q, bs[j] = q := ⟨_, rfl⟩
  rw [hq] at HSRC
  rcases q with _ | _
  · have HT : Hid (makeA ls l bs rs m (j : Int) = (makeM ls rs m j, true)) := makeA_yes hin hjb hq
    rw [HT.out]
    clear hb hd hpl hml hbl hin hcs HSC HT hq HATS
    generalize makeM ls rs m j = M at *
    obtain ⟨M1, M2⟩ := M
    unfold resV at HMK ⊢
    simp only at HMK ⊢
    go_enter Tryz.func21, Tryz.ntmps21
    go_wp2_with fail
    rw [HWA.out]
    refine HC.out.mono ?_
    rintro e w1 ⟨rfl, hb1⟩
    have K1 := Lib.hid hb1
    clear hb1 c0 c1 c2 c3
    obtain ⟨c0, c1, c2, c3⟩ := (P0.out.below K1.out hsz).cells
    go_wp2_with fail
    refine (HCT.out w1 K1.out).mono ?_
    rintro e w2 ⟨rfl, hb2⟩
    have K2 := Lib.hid (bth K1.out hb2 (Nat.le_refl _))
    clear hb2 c0 c1 c2 c3
    obtain ⟨c0, c1, c2, c3⟩ := (P0.out.below K2.out hsz).cells
    have hsc := HSRC.out w2 K2.out
    go_wp2_with fail
    refine (HMK.out w2 K2.out).mono ?_
    rintro e w3 ⟨rfl, hb3⟩
    have K3 := Lib.hid (bth K2.out hb3 (Nat.le_refl _))
    clear hb3 c0 c1 c2 c3 hsc
    have hRB := R0.out.below K3.out hsz1
    have HRB := Lib.hid hRB
    obtain ⟨r0, r1⟩ := hRB.cells
    have z0 := hRB.soft 0
    have z1 := hRB.soft 1
    clear hRB
    go_wp2_with fail
    have hZ := (HRB.out.set0 (.string ⟨M1.toArray⟩)).set1 (.int .i64 M2)
    refine bodyPost_ret (results_cell2 rfl rfl (load_res hZ.cells.1 hZ.cells.2)) rfl ?_
    exact ⟨rfl, ((bth HA.out K3.out (Nat.le_refl _)).setCell (p := ⟨w.heap.size + 1, 0, none⟩) (by show _ ≤ _ + 1; omega) _).setCell (p := ⟨w.heap.size + 1, 1, none⟩) (by show _ ≤ _ + 1; omega) _⟩
  · have HT : Hid (makeA ls l bs rs m (j : Int) = (noRes, false)) := makeA_no (by rw [List.getD_eq_getElem?_getD, Int.toNat_natCast, List.getElem?_eq_getElem hjb, hq]; simp)
    clear hb hd hpl hml hbl hin hcs HSC hq HATS HMK
    go_enter Tryz.func21, Tryz.ntmps21
    go_wp2_with fail
    rw [HWA.out]
    refine HC.out.mono ?_
    rintro e w1 ⟨rfl, hb1⟩
    have K1 := Lib.hid hb1
    clear hb1 c0 c1 c2 c3
    obtain ⟨c0, c1, c2, c3⟩ := (P0.out.below K1.out hsz).cells
    go_wp2_with fail
    refine (HCT.out w1 K1.out).mono ?_
    rintro e w2 ⟨rfl, hb2⟩
    have K2 := Lib.hid (bth K1.out hb2 (Nat.le_refl _))
    clear hb2 c0 c1 c2 c3
    obtain ⟨c0, c1, c2, c3⟩ := (P0.out.below K2.out hsz).cells
    have hsc := HSRC.out w2 K2.out
    have hRB := R0.out.below K2.out hsz1
    have HRB := Lib.hid hRB
    obtain ⟨r0, r1⟩ := hRB.cells
    have z0 := hRB.soft 0
    have z1 := hRB.soft 1
    clear hRB
    go_wp2_with fail
    have hZ := (HRB.out.set0 (.string ByteArray.empty)).set1 (.int .i64 0)
    refine bodyPost_ret (results_cell2 rfl rfl (load_res hZ.cells.1 hZ.cells.2)) rfl ?_
    exact ⟨by rw [HT.out] <;> rfl, ((bth HA.out K2.out (Nat.le_refl _)).setCell (p := ⟨w.heap.size + 1, 0, none⟩) (by show _ ≤ _ + 1; omega) _).setCell (p := ⟨w.heap.size + 1, 1, none⟩) (by show _ ≤ _ + 1; omega) _⟩

end Go.Proofs.YtcfhfhpdnjaokaaGreatDoor

/- Walks: the laws' marks in ops. -/
namespace Go.Proofs.YtcfhfhpdnjaokaaGreatDoor
open Go.RowKit Pth

/-- The ops that are marks, from k on. -/
def marksO (k : Nat) (n : Nat) : List OpT := (List.range n).map (fun (i : Nat) => (((k + i * 3 : Nat) : Int), ((k + i * 3 + 1 : Nat) : Int), markT (k + i * 3 + 2)))
theorem marksO_len (k n : Nat) : (marksO k n).length = n := by simp [marksO]
theorem marksO_snoc (k n : Nat) : marksO k (n + 1) = marksO k n ++ [(((k + n * 3 : Nat) : Int), ((k + n * 3 + 1 : Nat) : Int), markT (k + n * 3 + 2))] := by simp [marksO, List.range_succ]
theorem set_kindO (a : List OpT) (k : Nat) (ha : a.length = k) (x p q : Int) (t : List UInt8) (rest : List OpT) :
    (OC a ++ OC ((p, q, t) :: rest)).set (k * 3) (.int .i64 x) = OC a ++ OC ((x, q, t) :: rest) := by
  have hl : (OC a).length = k * 3 := by rw [OC_len, ha]
  rw [List.set_append_right _ _ (by omega), hl, Nat.sub_self]
  rfl
theorem set_numO (a : List OpT) (k : Nat) (ha : a.length = k) (x p q : Int) (t : List UInt8) (rest : List OpT) :
    (OC a ++ OC ((p, q, t) :: rest)).set (k * 3 + 1) (.int .i64 x) = OC a ++ OC ((p, x, t) :: rest) := by
  have hl : (OC a).length = k * 3 := by rw [OC_len, ha]
  rw [List.set_append_right _ _ (by omega), hl, show k * 3 + 1 - k * 3 = 1 by omega]
  rfl
theorem set_textO (a : List OpT) (k : Nat) (ha : a.length = k) (p q : Int) (x t : List UInt8) (rest : List OpT) :
    (OC a ++ OC ((p, q, t) :: rest)).set (k * 3 + 2) (.string ⟨x.toArray⟩) = OC (a ++ [(p, q, x)]) ++ OC rest := by
  have hl : (OC a).length = k * 3 := by rw [OC_len, ha]
  rw [List.set_append_right _ _ (by omega), hl, show k * 3 + 2 - k * 3 = 2 by omega, OC_append]
  simp [OC, opC]
theorem mark_l (j : Nat) (i : Int) (h : (j : Int) = i) (hk1 : j ≤ 8000000) (h1 : 1 ≤ j) (w : World) : Calls Tryz.prog 130 #[.int .i64 i] w fun e w' => e = .returned (.string ⟨(markT j).toArray⟩) ∧ Below w.heap.size w w' := by
  subst h
  exact markText_any j w hk1 h1

/-- The ops hold the marks, and nothing but their own block has turned. -/
def MarkedO (v : Value) (k : Nat) (n : Nat) (w : World) (e : Ending) (w' : World) : Prop :=
  e = .returned (.int .i64 ((k : Int) + (n : Int) * 3)) ∧ w.grownBy w' v.ownBlock

set_option maxRecDepth 20000 in
set_option maxHeartbeats 1000000 in
theorem markOpS_any (l : List OpT) (k : Nat) (B : Nat) (v : Value) (w : World) (hown : w.ownsRow B 158 3 v l.length (OC l)) (hl : l.length ≤ 1100000) (hk : k ≤ 4000000) (hk1 : 1 ≤ k) :
    Calls Tryz.prog 169 #[v, .int .i64 (k : Int)] w (MarkedO v k l.length w) := by
  have HW := Lib.hid hown
  obtain ⟨a, cap, rfl⟩ := own_sliceG hown
  clear hown
  go_enter Tryz.func169, Tryz.ntmps169
  go_wp2_with fail
  go_loopw [1, 5] (fun q i wr => ∃ j : Nat, j ≤ l.length ∧ q = .int .i64 ((k : Int) + (j : Int) * 3) ∧ i = .int .i64 j ∧ wr.ownsRow B 158 3 (.slice a l.length cap) l.length (OC (marksO k j) ++ OC (l.drop j)) ∧ w.grownBy wr (Value.slice a l.length cap).ownBlock) (fun _ i _ => l.length - (intOf i).toNat)
  case atStart => exact ⟨0, Nat.zero_le _, by simp, rfl, HW.out, grown_refl _ _⟩
  case round =>
    clear HW
    obtain ⟨j, hj, rfl, rfl, hown, hg⟩ := hrel
    by_cases hlt : j < l.length
    · obtain ⟨g, c2, hv⟩ : ∃ g c2, (Value.slice a l.length cap) = .slice (some ⟨g, 0, none⟩) l.length c2 := by
        rcases hown.2 with ⟨_, h0⟩ | ⟨g, c2, cur, hv, _⟩
        · omega
        · exact ⟨g, c2, hv⟩
      injection hv with hv1 hv2 hv3
      subst hv1
      have hc4 : l.length ≤ cap := by
        rcases hown.2 with ⟨_, h0⟩ | ⟨g, c2, cur, hv, _, _, h5, _⟩
        · omega
        · injection hv with _ _ hv3; omega
      have HC := Lib.hid (fun W => mark_l (k + j * 3 + 2) ((k : Int) + (j : Int) * 3 + 1 + 1) (by omega) (by omega) (by omega) W)
      rw [List.drop_eq_getElem_cons hlt, show l[j] = (l[j].1, l[j].2.1, l[j].2.2) from rfl] at hown
      have HE := Lib.hid (marksO_snoc k j)
      rw [show (((k + j * 3 : Nat) : Int)) = (k : Int) + (j : Int) * 3 by omega, show (((k + j * 3 + 1 : Nat) : Int)) = (k : Int) + (j : Int) * 3 + 1 by omega] at HE
      have ha := marksO_len k j
      have HG := Lib.hid hg
      have hfz := hown.frozenAt (j * 3)
      have hcz : wr.cell? ⟨g, j * 3, none⟩ = some (.int .i64 l[j].1) := by rw [hown.cellAt (j * 3) (by omega), (get_three (marksO k j) j ha _ _).1]
      have hst := hown.stored (j * 3) (.int .i64 ((k : Int) + (j : Int) * 3))
      rw [set_kindO (marksO k j) j ha] at hst
      have hfz1 := hst.1.frozenAt (j * 3 + 1)
      have hcz1 : (wr.setCell ⟨g, j * 3, none⟩ (.int .i64 ((k : Int) + (j : Int) * 3))).cell? ⟨g, j * 3 + 1, none⟩ = some (.int .i64 l[j].2.1) := by rw [hst.1.cellAt (j * 3 + 1) (by omega), (get_three (marksO k j) j ha _ _).2.1]
      have hst1 := hst.1.stored (j * 3 + 1) (.int .i64 ((k : Int) + (j : Int) * 3 + 1))
      rw [set_numO (marksO k j) j ha] at hst1
      have HN := Lib.hid hst1.1
      have HG1 := Lib.hid (grown_trans (grown_trans HG.out hst.2) hst1.2)
      clear hown hg hv2 hv3 hst hst1 HG
      generalize l[j].1 = p at hcz
      generalize l[j].2.1 = q at hcz1
      generalize l[j].2.2 = t at HN
      generalize markT (k + j * 3 + 2) = x at HC HE
      go_wp2_with fail
      generalize (wr.setCell ⟨g, j * 3, none⟩ (.int .i64 ((k : Int) + (j : Int) * 3))).setCell ⟨g, j * 3 + 1, none⟩ (.int .i64 ((k : Int) + (j : Int) * 3 + 1)) = w2 at HN HG1
      refine (HC.out _).mono ?_
      rintro e w3 ⟨rfl, hb3⟩
      have HN3 := Lib.hid (own_belowG HN.out hb3)
      have hfz2 := HN3.out.frozenAt (j * 3 + 2)
      have hcz2 : w3.cell? ⟨g, j * 3 + 2, none⟩ = some (.string ⟨t.toArray⟩) := by rw [HN3.out.cellAt (j * 3 + 2) (by omega), (get_three (marksO k j) j ha _ _).2.2]
      have hst := HN3.out.stored (j * 3 + 2) (.string ⟨x.toArray⟩)
      rw [set_textO (marksO k j) j ha, ← HE.out] at hst
      have HN4 := Lib.hid hst.1
      have HG4 := Lib.hid (grown_trans (grown_trans HG1.out (below_grown hb3)) hst.2)
      clear hst hb3 HN HN3 HG1 hcz hfz hcz1 hfz1 ha
      go_wp2_with fail
      go_roundw
      case rel => exact ⟨j + 1, by omega, by go_num, by go_num, HN4.out, HG4.out⟩
      case measure => simp [intOf]; omega
    · obtain rfl : j = l.length := by omega
      have HG := Lib.hid hg
      clear hown hg
      go_wp2_with fail
      go_ret
      exact ⟨rfl, HG.out⟩

end Go.Proofs.YtcfhfhpdnjaokaaGreatDoor

/- Walks: the laws' marks in graphs, and whether they are held. -/
namespace Go.Proofs.YtcfhfhpdnjaokaaGreatDoor
open Go.RowKit Pth

/-- The marks from k on, in lists. -/
def marksL : Nat → List (List Int) → List (List Int)
  | _, [] => []
  | k, l :: t => marks k l.length :: marksL (k + l.length) t
theorem marksL_len (k : Nat) (ls : List (List Int)) : (marksL k ls).length = ls.length := by
  induction ls generalizing k with
  | nil => rfl
  | cons l t ih => rw [marksL, List.length_cons, List.length_cons, ih]
theorem marksL_snoc (k : Nat) (ls : List (List Int)) (l : List Int) : marksL k (ls ++ [l]) = marksL k ls ++ [marks ((k + total ls : Nat) : Int) l.length] := by
  induction ls generalizing k with
  | nil => simp [marksL, total]
  | cons x t ih =>
    rw [List.cons_append, marksL, marksL, ih, List.cons_append]
    have : k + x.length + total t = k + total (x :: t) := by simp [total]; omega
    rw [this]
theorem marksL_next {k : Nat} {ls : List (List Int)} {j : Nat} (hj : j < ls.length) : marksL k (ls.take (j + 1)) = marksL k (ls.take j) ++ [marks ((k + total (ls.take j) : Nat) : Int) ls[j].length] := by
  rw [List.take_succ_eq_append_getElem hj, marksL_snoc]
theorem marksL_total (k : Nat) (ls : List (List Int)) : total (marksL k ls) = total ls := by
  induction ls generalizing k with
  | nil => rfl
  | cons x t ih => have := ih (k + x.length); simp only [total, marksL, List.map_cons, List.sum_cons, marks_len] at this ⊢; omega
theorem marksL_at {k : Nat} {ls : List (List Int)} {j : Nat} (hj : j < ls.length) : (marksL k ls)[j]'(by rw [marksL_len]; exact hj) = marks ((k + total (ls.take j) : Nat) : Int) ls[j].length := by
  induction ls generalizing k j with
  | nil => simp at hj
  | cons x t ih =>
    cases j with
    | zero => simp [marksL, total]
    | succ j =>
      simp only [marksL, List.getElem_cons_succ]
      rw [ih (by simpa using hj)]
      have : k + x.length + total (t.take j) = k + total ((x :: t).take (j + 1)) := by simp [total]; omega
      rw [this]

theorem zip_split {sl : List Value} {M ls : List (List Int)} {j : Nat} (hs : sl.length = ls.length) (hM : M.length = j) (hj : j < ls.length) :
    sl.zip (M ++ ls.drop j) = (sl.take j).zip M ++ (sl[j]'(by omega), ls[j]) :: (sl.drop (j + 1)).zip (ls.drop (j + 1)) := by
  have e : sl = sl.take j ++ sl[j]'(by omega) :: sl.drop (j + 1) := by rw [← List.drop_eq_getElem_cons (by omega), List.take_append_drop]
  conv => lhs; rw [e, List.drop_eq_getElem_cons hj]
  rw [List.zip_append (by rw [List.length_take]; omega), List.zip_cons_cons]
theorem zip_join {sl : List Value} {M ls : List (List Int)} {j : Nat} {x : List Int} (hs : sl.length = ls.length) (hM : M.length = j) (hj : j < ls.length) :
    (sl.take j).zip M ++ (sl[j]'(by omega), x) :: (sl.drop (j + 1)).zip (ls.drop (j + 1)) = sl.zip ((M ++ [x]) ++ ls.drop (j + 1)) := by
  have e : sl = sl.take j ++ sl[j]'(by omega) :: sl.drop (j + 1) := by rw [← List.drop_eq_getElem_cons (by omega), List.take_append_drop]
  conv => rhs; rw [e]
  rw [List.append_assoc, List.zip_append (by rw [List.length_take]; omega), List.singleton_append, List.zip_cons_cons]
/-- A list of another type stays. -/
theorem own_grownL {w w' : World} {B B' e n : Nat} {v : Value} {xs : List Value} {L : List (Value × List Int)} (h : w.ownsRow B e 1 v n xs) (he : e ≠ 3) (hl : Lists B' w L) (hg : GrownL w w' L) : w'.ownsRow B e 1 v n xs := by
  refine ⟨h.1, ?_⟩
  rcases h.2 with h0 | ⟨g, cap, cur, hv, hB, hh, r⟩
  · exact .inl h0
  · refine .inr ⟨g, cap, cur, hv, hB, (hg.block g (lt_of_block hh) (fun p hp hi => own_typesI h (hl.1 p hp) he g (by rw [hv]; rfl) hi)).trans hh, r⟩

theorem markIntS_l {l : List Int} {k B : Nat} {i r : Int} {v : Value} {w : World} (hi : (k : Int) = i) (hr : r = (k : Int) + (l.length : Int)) (hown : w.ownsRow B 3 1 v l.length (I l)) (hl : l.length ≤ 2000000) (hk : k ≤ 2000000) :
    Calls Tryz.prog 69 #[v, .int .i64 i] w fun e w' => e = .returned (.int .i64 r) ∧ w'.ownsRow B 3 1 v l.length (I (marks (k : Int) l.length)) ∧ w.grownBy w' v.ownBlock := by
  subst hi hr
  exact markIntS_any l k B v w hown hl hk
theorem heldIntS_l {k n : Nat} {i r : Int} {v : Value} {w : World} (hi : (k : Int) = i) (hr : r = (k : Int) + (n : Int)) (hrow : RowV w v (I (marks (k : Int) n))) (hn : n ≤ 2000000) (hk : k ≤ 2000000) :
    Calls Tryz.prog 70 #[v, .int .i64 i] w fun e w' => e = .returned (.int .i64 r) ∧ Below w.heap.size w w' := by
  subst hi hr
  exact heldIntS_any k n v w hrow hn hk

/-- The lists hold the marks, and nothing but their blocks has turned. -/
def MarkedN (B : Nat) (sl : List Value) (ls : List (List Int)) (R : List (Value × List Int)) (k : Nat) (w : World) (e : Ending) (w' : World) : Prop :=
  e = .returned (.int .i64 ((k + total ls : Nat) : Int)) ∧ Lists B w' (sl.zip (marksL k ls) ++ R) ∧ GrownL w w' (sl.zip ls)

set_option maxHeartbeats 2000000 in
theorem markIntSS_any (ls : List (List Int)) (R : List (Value × List Int)) (k B B' : Nat) (v : Value) (sl : List Value) (w : World) (hs : sl.length = ls.length) (hout : w.ownsRow B' 24 1 v ls.length sl) (hL : Lists B w (sl.zip ls ++ R)) (hl : ls.length + total ls ≤ 1500000) (hk : k ≤ 100000) :
    Calls Tryz.prog 168 #[v, .int .i64 (k : Int)] w (MarkedN B sl ls R k w) := by
  have HW := Lib.hid hL
  have HU := Lib.hid hout
  obtain ⟨a, cap, rfl⟩ := own_slice hout
  have hcap : ls.length ≤ cap ∧ cap ≤ maxLen := by obtain ⟨a', c', he, h1, h2, _⟩ := RowV.of_own hout; injection he with _ _ he; omega
  obtain ⟨hc1, hc2⟩ := hcap
  unfold maxLen at hc2
  clear hL hout
  go_enter Tryz.func168, Tryz.ntmps168
  go_wp2_with fail
  go_loopw [1, 5] (fun q i wr => ∃ j : Nat, j ≤ ls.length ∧ q = .int .i64 ((k + total (ls.take j) : Nat) : Int) ∧ i = .int .i64 j ∧ Lists B wr (sl.zip (marksL k (ls.take j) ++ ls.drop j) ++ R) ∧ GrownL w wr (sl.zip ls)) (fun _ i _ => ls.length - (intOf i).toNat)
  case atStart => exact ⟨0, Nat.zero_le _, by simp [total], rfl, by simpa [marksL] using HW.out, GrownL.refl _ _⟩
  case round =>
    obtain ⟨j, hj, rfl, rfl, hL, hg⟩ := hrel
    by_cases hlt : j < ls.length
    · have hout := own_grownL HU.out (by decide) HW.out.left hg
      have hsj : j < sl.length := by omega
      obtain ⟨a', c', he', _, _, hat⟩ := RowV.of_own hout
      injection he' with he1 he2 he3
      subst he1 he3
      obtain ⟨g, o, rfl, hgz, hcell⟩ := hat j hsj
      have hM : (marksL k (ls.take j)).length = j := by rw [marksL_len, List.length_take]; omega
      rw [zip_split hs hM hlt, List.append_assoc, List.cons_append] at hL
      have hone := hL.1 (sl[j], ls[j]) (by simp)
      have htl := total_at hlt
      have htk := total_le (ls := ls) (k := j)
      have HC := Lib.hid (markIntS_l (l := ls[j]) (k := k + total (ls.take j)) (i := ((k + total (ls.take j) : Nat) : Int)) (r := ((k + total (ls.take (j + 1)) : Nat) : Int)) rfl (by have := total_next hlt; omega) hone (by omega) (by omega))
      have HT : Hid (∀ w1, w1.ownsRow B 3 1 sl[j] ls[j].length (I (marks ((k + total (ls.take j) : Nat) : Int) ls[j].length)) → wr.grownBy w1 (sl[j]).ownBlock → Lists B w1 (sl.zip (marksL k (ls.take (j + 1)) ++ ls.drop (j + 1)) ++ R) ∧ GrownL w w1 (sl.zip ls)) := by
        intro w1 h1 h2
        refine ⟨?_, hg.one h2 (zip_get hsj hlt)⟩
        have := hL.turn (v' := sl[j]) (l' := marks ((k + total (ls.take j) : Nat) : Int) ls[j].length) h2 (by rw [marks_len]; exact h1) (fun b hb => .inl hb)
        rw [← List.cons_append, ← List.append_assoc, zip_join hs hM hlt, ← marksL_next hlt] at this
        exact this
      obtain ⟨a2, c2, hv2⟩ := own_slice hone
      have h63 : (k + total (ls.take (j + 1)) : Nat) ≤ 3000000 := by have := total_le (ls := ls) (k := j + 1); omega
      clear hL hone hat hg hout he2
      simp only at hv2
      generalize hsl : sl[j] = u at hcell HC HT hv2
      subst hv2
      generalize ls[j].length = n1 at *
      generalize k + total (ls.take j) = q0 at *
      generalize hq1 : k + total (ls.take (j + 1)) = q1 at *
      have HQ := Lib.hid hq1
      clear hsl hq1
      go_wp2_with fail
      refine HC.out.mono ?_
      rintro e w1 ⟨rfl, h1, h2⟩
      obtain ⟨h3, h4⟩ := HT.out w1 h1 h2
      have H3 := Lib.hid h3
      have H4 := Lib.hid h4
      clear h1 h2 h3 h4 HT HC
      go_wp2_with fail
      go_roundw
      case rel => exact ⟨j + 1, by omega, by rw [HQ.out], by go_num, H3.out, H4.out⟩
      case measure => simp [intOf]; omega
    · obtain rfl : j = ls.length := by omega
      rw [List.take_length, List.drop_length, List.append_nil] at hL
      rw [List.take_length]
      have HL := Lib.hid hL
      have HG := Lib.hid hg
      clear hL hg
      go_wp2_with fail
      go_ret
      exact ⟨rfl, HL.out, HG.out⟩

/-- Only blocks between two have turned. -/
structure OnlyIn (B C : Nat) (w w' : World) : Prop where
  below : Below B w w'
  above : ∀ i, C ≤ i → i < w.heap.size → w'.heap[i]? = w.heap[i]?
  kept : ∀ (i : Nat) (cs : Array Value) (e : Nat), e ≠ 3 → w.heap[i]? = some (Obj.cells cs e (0, 0)) → w'.heap[i]? = w.heap[i]?
theorem GraphO.only {B C D : Nat} {w w' : World} {v : Value} {ls : List (List Int)} {l : List Int} (h : GraphO D w v ls l) (hg : OnlyIn B C w w') (hD : C ≤ D) : GraphO D w' v ls l := by
  obtain ⟨nv, ov, sl, hv, h1, h2, h3⟩ := h
  have one : ∀ {e n : Nat} {x : Value} {xs : List Value}, w.ownsRow D e 1 x n xs → w'.ownsRow D e 1 x n xs := by
    intro e n x xs h
    refine ⟨h.1, ?_⟩
    rcases h.2 with h0 | ⟨g, cap, cur, hv, hB, hh, r⟩
    · exact .inl h0
    · exact .inr ⟨g, cap, cur, hv, hB, (hg.above g (by omega) (lt_of_block hh)).trans hh, r⟩
  exact ⟨nv, ov, sl, hv, h1, one h2, fun p hp => one (h3.1 p hp), h3.2⟩
theorem own_only {B C D e n : Nat} {w w' : World} {v : Value} {xs : List Value} (h : w.ownsRow D e 1 v n xs) (hg : OnlyIn B C w w') (hD : C ≤ D) : w'.ownsRow D e 1 v n xs := by
  refine ⟨h.1, ?_⟩
  rcases h.2 with h0 | ⟨g, cap, cur, hv, hB, hh, r⟩
  · exact .inl h0
  · exact .inr ⟨g, cap, cur, hv, hB, (hg.above g (by omega) (lt_of_block hh)).trans hh, r⟩
theorem Blk2.only {B C b t : Nat} {w w' : World} {x y : Value} (h : Blk2 w b t x y) (hg : OnlyIn B C w w') (hb : b < B ∨ C ≤ b) : Blk2 w' b t x y := by
  rcases hb with hb | hb
  · exact h.below hg.below hb
  · exact (hg.above b hb (lt_of_block h)).trans h

theorem Blk2.kept {B C b t : Nat} {w w' : World} {x y : Value} (h : Blk2 w b t x y) (hg : OnlyIn B C w w') (ht : t ≠ 3) : Blk2 w' b t x y := (hg.kept b _ t ht h).trans h
/-- How many numbers a graph has. -/
def totalG (ls : List (List Int)) (l : List Int) : Nat := total ls + l.length
theorem GrownL.more {w w1 w2 : World} {L M : List (Value × List Int)} (h : GrownL w w1 L) (hs : ∀ p ∈ L, p ∈ M) : GrownL w w1 M :=
  ⟨h.os, h.tape, h.output, h.size, fun i hi hne => h.block i hi (fun p hp => hne p (hs p hp))⟩

set_option maxRecDepth 20000 in
set_option maxHeartbeats 4000000 in
theorem markGraph_any (ls : List (List Int)) (l : List Int) (k B : Nat) (v : Value) (w0 w : World) (h0 : GraphO B w0 v ls l) (hb0 : Below w0.heap.size w0 w) (hB : B ≤ w0.heap.size) (hl : ls.length + total ls + l.length ≤ 1500000) (hk : k ≤ 1000) :
    Calls Tryz.prog 127 #[v, .int .i64 (k : Int)] w fun e w' => e = .returned (.int .i64 ((k + totalG ls l : Nat) : Int)) ∧ GraphO B w' v (marksL k ls) (marks ((k + total ls : Nat) : Int) l.length) ∧ OnlyIn B w0.heap.size w w' := by
  obtain ⟨nv, ov, sl, rfl, hs, hn, hL⟩ := h0
  have hlt : ∀ p ∈ sl.zip ls ++ [(ov, l)], ∀ i, p.1.ownBlock = some i → B ≤ i ∧ i < w0.heap.size := fun p hp i hi => (hL.1 p hp).lt i hi
  have HLT := Lib.hid hlt
  have hnw := own_below hn hb0
  have hLw := hL.below hb0
  obtain ⟨an, cn, rfl⟩ := own_slice hn
  obtain ⟨ao, co, hov⟩ := own_slice (hL.1 (ov, l) (List.mem_append.2 (.inr (List.mem_singleton.2 rfl))))
  simp only at hov
  subst hov
  obtain ⟨wa, hwa⟩ : ∃ wa, wa = w.alloc (.cells #[.slice an ls.length cn, .slice ao l.length co] 26) := ⟨_, rfl⟩
  have P0 : Hid (Blk2 wa w.heap.size 26 (.slice an ls.length cn) (.slice ao l.length co)) := by rw [hwa]; exact Blk2.new
  have hAw : Below w.heap.size w wa := by rw [hwa]; exact (Below.refl w.heap.size w).alloc (Nat.le_refl _) _
  have HA := Lib.hid hAw
  have hsa : wa.heap.size = w.heap.size + 1 := by rw [hwa]; simp
  have hsw : w0.heap.size ≤ w.heap.size := hb0.size
  have HN := Lib.hid (own_below hnw hAw)
  have HL := Lib.hid (hLw.below hAw)
  have HWA := Lib.hid hwa
  have HC := Lib.hid (markIntSS_any ls [(.slice ao l.length co, l)] k B B _ sl wa hs HN.out HL.out (by omega) (by omega))
  have hpb : ∀ (L : List (Value × List Int)) (x y : World), GrownL x y L → (∀ p ∈ L, p ∈ sl.zip ls ++ [(.slice ao l.length co, l)]) → w.heap.size < x.heap.size → x.heap[w.heap.size]? = y.heap[w.heap.size]? := by
    intro L x y hg hm hx
    refine (hg.block w.heap.size hx (fun p hp hi => ?_)).symm
    have := (HLT.out p (hm p hp) _ hi).2
    omega
  have HPB := Lib.hid hpb
  clear hlt hnw hLw hn hL hAw hwa hpb hb0
  go_enter Tryz.func127, Tryz.ntmps127
  go_wp2_with fail
  rw [← HWA.out]
  refine HC.out.mono ?_
  rintro e w1 ⟨rfl, hL1, hg1⟩
  have hm1 : ∀ p ∈ sl.zip ls, p ∈ sl.zip ls ++ [(Value.slice ao l.length co, l)] := fun p hp => List.mem_append.2 (.inl hp)
  have P1 := Lib.hid (show Blk2 w1 w.heap.size 26 (.slice an ls.length cn) (.slice ao l.length co) from (HPB.out _ _ _ hg1 hm1 (by omega)).symm.trans P0.out)
  have hn1 := own_grownL HN.out (by decide) HL.out.left hg1
  have c1 := P1.out.cells.2
  have hone := hL1.1 (.slice ao l.length co, l) (List.mem_append.2 (.inr (List.mem_singleton.2 rfl)))
  have HC2 := Lib.hid (markIntS_l (l := l) (k := k + total ls) (i := ((k + total ls : Nat) : Int)) (r := ((k + totalG ls l : Nat) : Int)) rfl (by unfold totalG; omega) hone (by omega) (by omega))
  have HG1 := Lib.hid (hg1.more hm1 (w2 := w1))
  have HL1 := Lib.hid hL1
  have HN1 := Lib.hid hn1
  clear hL1 hg1 hn1 hone hm1 HC
  generalize hq : k + total ls = q at *
  have HQ := Lib.hid hq
  clear hq
  go_wp2_with fail
  refine HC2.out.mono ?_
  rintro e w2 ⟨rfl, ho2, hg2⟩
  have HF : Hid (GraphO B w2 (.agg #[.slice an ls.length cn, .slice ao l.length co]) (marksL k ls) (marks (q : Int) l.length) ∧ OnlyIn B w0.heap.size w w2) := by
    have hL2 := HL1.out.turn (L := sl.zip (marksL k ls)) (M := []) (v' := .slice ao l.length co) (l' := marks (q : Int) l.length) hg2 (by rw [marks_len]; exact ho2) (fun b hb => .inl hb)
    have hg := HG1.out.one hg2 (l := l) (List.mem_append.2 (.inr (List.mem_singleton.2 rfl)))
    have hml := marksL_len k ls
    refine ⟨⟨_, _, sl, rfl, by rw [hml]; exact hs, ?_, hL2⟩, ?_, fun i hi hiw => ?_, fun i cs e he hi => ?_⟩
    · rw [hml]
      exact own_apartI HN1.out hg2 (fun i hi hi' => own_typesI HN1.out (HL1.out.1 (.slice ao l.length co, l) (List.mem_append.2 (.inr (List.mem_singleton.2 rfl)))) (by decide) i hi' hi)
    · have := hg.below HL.out (by omega)
      exact HA.out.mono (by omega) |>.trans this
    · have h1 := hg.block i (by omega) (fun p hp hpi => by have := (HLT.out p hp i hpi).2; omega)
      exact h1.trans (HA.out.block i hiw)
    · have hiw := lt_of_block hi
      have hi' := (HA.out.block i hiw).trans hi
      have h1 := hg.block i (by omega) (fun p hp hpi => by
        rcases (HL.out.1 p hp).2 with ⟨hv, _⟩ | ⟨g, cap, cur, hv, _, hg', _⟩
        · rw [hv] at hpi; simp [Value.ownBlock] at hpi
        · rw [hv] at hpi
          simp only [Value.ownBlock, Option.some.injEq] at hpi
          subst hpi
          rw [hi'] at hg'
          simp at hg'
          exact he hg'.2)
      exact h1.trans (HA.out.block i hiw)
  clear ho2 hg2
  go_wp2_with fail
  go_ret
  exact ⟨rfl, by rw [HQ.out]; exact HF.out.1, HF.out.2⟩

end Go.Proofs.YtcfhfhpdnjaokaaGreatDoor
