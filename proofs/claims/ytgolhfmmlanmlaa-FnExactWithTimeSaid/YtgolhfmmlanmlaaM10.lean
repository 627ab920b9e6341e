/- Texts of one claim, joined in their order. -/
import Derived.Test.YtgolhfmmlanmlaaM8

/- Walks: a time made more, of both programs. -/
namespace Go.Proofs.Ytgolhfmmlanmlaa
open Go.RowKit Pth

/-- Whether a time may be so much more; the times then. -/
def withB (ts : List Int) (k m : Int) : Bool := decide (ts.length ≤ 10 ∧ allB 1 100 ts = true ∧ (0 ≤ k ∧ k < (ts.length : Int)) ∧ (0 ≤ m ∧ m ≤ 99) ∧ atI ts k + m ≤ 100)
def withA (ts : List Int) (k m : Int) : List Int := ifL (withB ts k m) (ts.set k.toNat (atI ts k + m))
theorem withA_short (ts : List Int) (k m : Int) : (withA ts k m).length ≤ 1000000 := by
  unfold withA
  rcases h : withB ts k m with _ | _
  · show ([] : List Int).length ≤ _; simp
  · show (ts.set k.toNat (atI ts k + m)).length ≤ _
    rw [List.length_set]
    have := (of_decide_eq_true h).1
    omega
theorem clone_any (ts : List Int) (v : Value) (w : World) (hrow : RowV w v (I ts)) (hne : 0 < ts.length) (hl : ts.length ≤ 1000) :
    Calls Try.prog 58 #[v] w (IntsPost w.heap.size ts w) := by
  obtain ⟨tm, tc, rfl, ht1, ht2, htt⟩ := hrow.ints
  obtain ⟨g, o, rfl, hg, _⟩ := htt 0 hne
  refine (Try.slices_Clone_int g o ts.length tc ts w (Nat.le_refl _) (by omega) (fun j hj => ?_)).mono ?_
  · obtain ⟨g', o', hA, _, hc⟩ := htt j hj
    obtain ⟨rfl, rfl⟩ := addr_inj hA
    rw [hc, List.getD_eq_getElem?_getD, List.getElem?_eq_getElem hj]
    rfl
  · rintro e w' ⟨v', rfl, ho, _, hb⟩
    rw [List.take_length] at ho
    exact ⟨v', rfl, ho, hb⟩

set_option maxRecDepth 20000 in
set_option maxHeartbeats 8000000 in
theorem specWith_any (ts : List Int) (k m : Int) (u : Value) (w : World) (hrow : RowV w u (I ts)) :
    Calls Try.prog 29 #[u, .int .i64 k, .int .i64 m] w (ListOk (withA ts k m) (withB ts k m) w) := by
  have HR := Lib.hid hrow
  obtain ⟨tm, tc, rfl, ht1, ht2, htt⟩ := hrow.ints
  unfold maxLen at ht2
  have HTT := Lib.hid htt
  clear hrow htt
  unfold withA
  have HL0 := l1All_any ts 1 100 (.slice tm ts.length tc) w HR.out
  by_cases h1 : ts.length ≤ 10
  case neg =>
    have hd : decide ((ts.length : Int) > 10) = true := by simp; omega
    clear HL0
    have hB : withB ts k m = false := decide_eq_false (fun h => h1 h.1)
    rw [hB]
    clear hB HTT HR
    go_enter Try.func29, Try.ntmps29
    go_wp2_with fail
    go_ret2
    exact ⟨_, rfl, none_ownZ _ _ _, Below.refl _ _⟩
  have hd : decide ((ts.length : Int) > 10) = false := by simp; omega
  rcases h2 : allB 1 100 ts with _ | _
  · rw [h2] at HL0
    have HL := Lib.hid HL0
    clear HL0
    have hB : withB ts k m = false := decide_eq_false (fun h => by rw [h2] at h; exact absurd h.2.1 (by simp))
    rw [hB]
    clear hB HTT HR
    go_enter Try.func29, Try.ntmps29
    go_wp2_with fail
    refine HL.out.mono ?_
    rintro e w1 ⟨rfl, rfl⟩
    go_wp2_with fail
    go_ret2
    exact ⟨_, rfl, none_ownZ _ _ _, Below.refl _ _⟩
  rw [h2] at HL0
  have HL := Lib.hid HL0
  clear HL0
  by_cases h3 : 0 ≤ k ∧ k < (ts.length : Int)
  case neg =>
    have HI := Lib.hid (l1In_task (w := w) (show (decide (0 ≤ k) && decide (k < (ts.length : Int))) = false by rw [Bool.eq_false_iff]; intro h; rw [Bool.and_eq_true, decide_eq_true_iff, decide_eq_true_iff] at h; exact h3 h))
    have hB : withB ts k m = false := decide_eq_false (fun h => h3 h.2.2.1)
    rw [hB]
    clear hB HTT HR
    go_enter Try.func29, Try.ntmps29
    go_wp2_with fail
    refine HL.out.mono ?_
    rintro e w1 ⟨rfl, rfl⟩
    go_wp2_with fail
    refine HI.out.mono ?_
    rintro e w1 ⟨rfl, rfl⟩
    go_wp2_with fail
    go_ret2
    exact ⟨_, rfl, none_ownZ _ _ _, Below.refl _ _⟩
  have HI := Lib.hid (l1In_task (w := w) (show (decide (0 ≤ k) && decide (k < (ts.length : Int))) = true by simp [h3]))
  by_cases h4 : 0 ≤ m ∧ m ≤ 99
  case neg =>
    have hm0 : (decide (0 ≤ m) && decide (m ≤ 99)) = false := by rw [Bool.eq_false_iff]; intro h; rw [Bool.and_eq_true, decide_eq_true_iff, decide_eq_true_iff] at h; exact h4 h
    have HM := l1In_any m 0 99 w
    rw [hm0] at HM
    have HMM := Lib.hid HM
    clear HM hm0
    have hB : withB ts k m = false := decide_eq_false (fun h => h4 h.2.2.2.1)
    rw [hB]
    clear hB HTT HR
    go_enter Try.func29, Try.ntmps29
    go_wp2_with fail
    refine HL.out.mono ?_
    rintro e w1 ⟨rfl, rfl⟩
    go_wp2_with fail
    refine HI.out.mono ?_
    rintro e w1 ⟨rfl, rfl⟩
    go_wp2_with fail
    refine HMM.out.mono ?_
    rintro e w1 ⟨rfl, rfl⟩
    go_wp2_with fail
    go_ret2
    exact ⟨_, rfl, none_ownZ _ _ _, Below.refl _ _⟩
  have hm0 : (decide (0 ≤ m) && decide (m ≤ 99)) = true := by simp [h4]
  have HM := l1In_any m 0 99 w
  rw [hm0] at HM
  have HMM := Lib.hid HM
  have htb := (show ∀ x ∈ ts, 1 ≤ x ∧ x ≤ 100 from of_decide_eq_true h2)
  have hab : 1 ≤ atI ts k ∧ atI ts k ≤ 100 := htb _ (atI_mem h3)
  clear HM hm0 htb
  obtain ⟨kn, rfl⟩ : ∃ kn : Nat, k = kn := ⟨k.toNat, by omega⟩
  have hkl : kn < ts.length := by omega
  have hkz : (kn : Int) < (ts.length : Int) := by omega
  obtain ⟨tg, tf, hto, htg, htc0⟩ := HTT.out kn hkl
  subst hto
  have htc : w.cell? ⟨tg, tf + kn, none⟩ = some (.int .i64 (atI ts (kn : Int))) := by rw [htc0, atI_get hkl]
  have hsum : IntKind.i64.wrap (atI ts (kn : Int) + m) = atI ts (kn : Int) + m := by rw [IntKind.wrap_i64]; omega
  by_cases h5 : atI ts (kn : Int) + m ≤ 100
  case neg =>
    have hB : withB ts (kn : Int) m = false := decide_eq_false (fun h => h5 h.2.2.2.2)
    rw [hB]
    have hgt : decide (atI ts (kn : Int) + m > 100) = true := by simp; omega
    clear hB HTT htc0 h2
    generalize atI ts (kn : Int) = tt at *
    go_enter Try.func29, Try.ntmps29
    go_wp2_with fail
    refine HL.out.mono ?_
    rintro e w1 ⟨rfl, rfl⟩
    go_wp2_with fail
    refine HI.out.mono ?_
    rintro e w1 ⟨rfl, rfl⟩
    go_wp2_with fail
    refine HMM.out.mono ?_
    rintro e w1 ⟨rfl, rfl⟩
    go_wp2_with fail
    go_ret2
    exact ⟨_, rfl, none_ownZ _ _ _, Below.refl _ _⟩
  have hB : withB ts (kn : Int) m = true := decide_eq_true ⟨h1, h2, h3, h4, h5⟩
  rw [hB]
  have hgt : decide (atI ts (kn : Int) + m > 100) = false := by simp; omega
  obtain ⟨qa, qc, w2, run2, o2, b2⟩ := lit_row ts (some ⟨tg, tf, none⟩) tc w _ rfl HR.out (by omega) 24
  have hq : ∃ gq, qa = some ⟨gq, 0, none⟩ ∧ w.heap.size ≤ gq := by
    rcases o2.2 with ⟨h0, h1⟩ | ⟨g, cap, cur, hv, hg, _⟩
    · omega
    · injection hv with h1 _ h3
      exact ⟨g, h1, hg⟩
  obtain ⟨gq, rfl, hgq⟩ := hq
  have HRUN := Lib.hid run2
  have hcu : w2.cell? ⟨gq, kn, none⟩ = some (.int .i64 (atI ts (kn : Int))) := by rw [o2.cellAt kn (by omega), I_atE hkl, atI_get hkl]
  have hf2 := o2.frozenAt kn
  have hst := o2.stored kn (.int .i64 (atI ts (kn : Int) + m))
  rw [I_setE] at hst
  have HO1 := Lib.hid hst.1
  have HB1 := Lib.hid (b2.trans (only_below hst.2 hgq b2.size))
  clear hB HTT htc0 h2 run2 o2 b2 hst
  go_enter Try.func29, Try.ntmps29
  go_wp2_with fail
  refine HL.out.mono ?_
  rintro e w1 ⟨rfl, rfl⟩
  go_wp2_with fail
  refine HI.out.mono ?_
  rintro e w1 ⟨rfl, rfl⟩
  go_wp2_with fail
  refine HMM.out.mono ?_
  rintro e w1 ⟨rfl, rfl⟩
  go_upto_region 3 with fail
  go_upto_region 4 with (at_builtin; refine wpList_runApp rfl _ _ rfl rfl rfl HRUN.out ?_)
  go_wp2_with fail
  go_ret2
  exact ⟨_, rfl, by rw [show (ifL true (ts.set ((kn : Int)).toNat (atI ts (kn : Int) + m))).length = ts.length from List.length_set]; exact HO1.out, HB1.out⟩

set_option maxRecDepth 20000 in
set_option maxHeartbeats 8000000 in
theorem implWith_any (ts : List Int) (k m : Int) (u : Value) (w : World) (hrow : RowV w u (I ts)) :
    Calls Try.prog 27 #[u, .int .i64 k, .int .i64 m] w (ListOk (withA ts k m) (withB ts k m) w) := by
  have HR := Lib.hid hrow
  obtain ⟨tm, tc, rfl, ht1, ht2, htt⟩ := hrow.ints
  unfold maxLen at ht2
  have HTT := Lib.hid htt
  clear hrow htt
  unfold withA
  have HL0 := areTimes_any ts (.slice tm ts.length tc) w HR.out
  by_cases h1 : ts.length ≤ 10 ∧ allB 1 100 ts = true
  case neg =>
    have hb : (decide (ts.length ≤ 10) && allB 1 100 ts) = false := by rw [Bool.eq_false_iff]; intro h; rw [Bool.and_eq_true, decide_eq_true_iff] at h; exact h1 h
    rw [hb] at HL0
    have HL := Lib.hid HL0
    clear HL0 hb
    have hB : withB ts k m = false := decide_eq_false (fun h => h1 ⟨h.1, h.2.1⟩)
    rw [hB]
    clear hB HTT HR
    go_enter Try.func27, Try.ntmps27
    go_wp2_with fail
    refine HL.out.mono ?_
    rintro e w1 ⟨rfl, hb1⟩
    have HB := Lib.hid hb1
    clear hb1
    go_wp2_with fail
    go_ret2
    exact ⟨_, rfl, none_ownZ _ _ _, HB.out⟩
  have hb : (decide (ts.length ≤ 10) && allB 1 100 ts) = true := by rw [h1.2, decide_eq_true h1.1]; rfl
  rw [hb] at HL0
  have HL := Lib.hid HL0
  have htb := (show ∀ x ∈ ts, 1 ≤ x ∧ x ≤ 100 from of_decide_eq_true h1.2)
  have h10 := h1.1
  have HALL := Lib.hid h1.2
  clear HL0 hb h1
  by_cases chd1 : 0 ≤ k
  case neg =>
    have hd1 : decide (k < 0) = true := by simp; omega
    clear HALL
    have hB : withB ts k m = false := decide_eq_false (fun h => chd1 h.2.2.1.1)
    rw [hB]
    clear hB HTT HR
    go_enter Try.func27, Try.ntmps27
    go_wp2_with fail
    refine HL.out.mono ?_
    rintro e w1 ⟨rfl, hb1⟩
    have HB := Lib.hid hb1
    clear hb1
    go_wp2_with fail
    go_ret2
    exact ⟨_, rfl, none_ownZ _ _ _, HB.out⟩
  have hd1 : decide (k < 0) = false := by simp; omega
  by_cases chd2 : k < (ts.length : Int)
  case neg =>
    have hd2 : decide (k ≥ (ts.length : Int)) = true := by simp; omega
    clear HALL
    have hB : withB ts k m = false := decide_eq_false (fun h => chd2 h.2.2.1.2)
    rw [hB]
    clear hB HTT HR
    go_enter Try.func27, Try.ntmps27
    go_wp2_with fail
    refine HL.out.mono ?_
    rintro e w1 ⟨rfl, hb1⟩
    have HB := Lib.hid hb1
    clear hb1
    go_wp2_with fail
    go_ret2
    exact ⟨_, rfl, none_ownZ _ _ _, HB.out⟩
  have hd2 : decide (k ≥ (ts.length : Int)) = false := by simp; omega
  by_cases chd3 : 0 ≤ m
  case neg =>
    have hd3 : decide (m < 0) = true := by simp; omega
    clear HALL
    have hB : withB ts k m = false := decide_eq_false (fun h => chd3 h.2.2.2.1.1)
    rw [hB]
    clear hB HTT HR
    go_enter Try.func27, Try.ntmps27
    go_wp2_with fail
    refine HL.out.mono ?_
    rintro e w1 ⟨rfl, hb1⟩
    have HB := Lib.hid hb1
    clear hb1
    go_wp2_with fail
    go_ret2
    exact ⟨_, rfl, none_ownZ _ _ _, HB.out⟩
  have hd3 : decide (m < 0) = false := by simp; omega
  by_cases chd4 : m ≤ 99
  case neg =>
    have hd4 : decide (m ≥ 100) = true := by simp; omega
    clear HALL
    have hB : withB ts k m = false := decide_eq_false (fun h => chd4 h.2.2.2.1.2)
    rw [hB]
    clear hB HTT HR
    go_enter Try.func27, Try.ntmps27
    go_wp2_with fail
    refine HL.out.mono ?_
    rintro e w1 ⟨rfl, hb1⟩
    have HB := Lib.hid hb1
    clear hb1
    go_wp2_with fail
    go_ret2
    exact ⟨_, rfl, none_ownZ _ _ _, HB.out⟩
  have hd4 : decide (m ≥ 100) = false := by simp; omega
  have h3 : 0 ≤ k ∧ k < (ts.length : Int) := ⟨chd1, chd2⟩
  have hab : 1 ≤ atI ts k ∧ atI ts k ≤ 100 := htb _ (atI_mem h3)
  clear htb
  obtain ⟨kn, rfl⟩ : ∃ kn : Nat, k = kn := ⟨k.toNat, by omega⟩
  have hkl : kn < ts.length := by omega
  have hkz : (kn : Int) < (ts.length : Int) := by omega
  obtain ⟨tg, tf, hto, htg, htc0⟩ := HTT.out kn hkl
  subst hto
  have htc : w.cell? ⟨tg, tf + kn, none⟩ = some (.int .i64 (atI ts (kn : Int))) := by rw [htc0, atI_get hkl]
  have hsum : IntKind.i64.wrap (atI ts (kn : Int) + m) = atI ts (kn : Int) + m := by rw [IntKind.wrap_i64]; omega
  by_cases h5 : atI ts (kn : Int) + m ≤ 100
  case neg =>
    have hB : withB ts (kn : Int) m = false := decide_eq_false (fun h => h5 h.2.2.2.2)
    rw [hB]
    have hgt : decide (atI ts (kn : Int) + m > 100) = true := by simp; omega
    have HTC := Lib.hid (fun W (h : Below w.heap.size w W) => (h.cell (p := ⟨tg, tf + kn, none⟩) htg).trans htc)
    clear hB HTT htc0 HALL htc
    generalize atI ts (kn : Int) = tt at *
    go_enter Try.func27, Try.ntmps27
    go_wp2_with fail
    refine HL.out.mono ?_
    rintro e w1 ⟨rfl, hb1⟩
    have HB := Lib.hid hb1
    clear hb1
    have htc := HTC.out w1 HB.out
    go_wp2_with fail
    go_ret2
    exact ⟨_, rfl, none_ownZ _ _ _, HB.out⟩
  have hB : withB ts (kn : Int) m = true := decide_eq_true ⟨h10, HALL.out, h3, ⟨chd3, chd4⟩, h5⟩
  rw [hB]
  have hgt : decide (atI ts (kn : Int) + m > 100) = false := by simp; omega
  have HTC := Lib.hid (fun W (h : Below w.heap.size w W) => (h.cell (p := ⟨tg, tf + kn, none⟩) htg).trans htc)
  clear hB HTT htc0 HALL htc
  go_enter Try.func27, Try.ntmps27
  go_wp2_with fail
  refine HL.out.mono ?_
  rintro e w1 ⟨rfl, hb1⟩
  have HB := Lib.hid hb1
  clear hb1
  have htc := HTC.out w1 HB.out
  have HC := Lib.hid (clone_any ts _ w1 (HR.out.below HB.out) (by omega) (by omega))
  go_wp2_with fail
  refine HC.out.mono ?_
  rintro e w2 ⟨v2, rfl, o2, b2⟩
  have hq : ∃ gq cq, v2 = .slice (some ⟨gq, 0, none⟩) ts.length cq ∧ w1.heap.size ≤ gq := by
    rcases o2.2 with ⟨h0, h1⟩ | ⟨g, cap, cur, hv, hg, _⟩
    · omega
    · exact ⟨g, cap, hv, hg⟩
  obtain ⟨gq, cq, rfl, hgq⟩ := hq
  have hcu : w2.cell? ⟨gq, kn, none⟩ = some (.int .i64 (atI ts (kn : Int))) := by rw [o2.cellAt kn (by omega), I_atE hkl, atI_get hkl]
  have hf2 := o2.frozenAt kn
  have hst := o2.stored kn (.int .i64 (atI ts (kn : Int) + m))
  rw [I_setE] at hst
  have HO1 := Lib.hid hst.1
  have HB1 := Lib.hid ((bth HB.out b2 (Nat.le_refl _)).trans (only_below hst.2 (Nat.le_trans HB.out.size hgq) (Nat.le_trans HB.out.size b2.size)))
  have hs1 := HB.out.size
  clear o2 b2 hst htc HC
  go_wp2_with fail
  go_ret2
  exact ⟨_, rfl, by rw [show (ifL true (ts.set ((kn : Int)).toNat (atI ts (kn : Int) + m))).length = ts.length from List.length_set]; exact own_base HO1.out hs1, HB1.out⟩

end Go.Proofs.Ytgolhfmmlanmlaa
