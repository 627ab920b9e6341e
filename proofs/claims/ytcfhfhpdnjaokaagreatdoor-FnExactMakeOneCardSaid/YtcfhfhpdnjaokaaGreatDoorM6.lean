/- Texts of one claim, joined in their order. -/
import Derived.Test.YtcfhfhpdnjaokaaGreatDoorM4
import Derived.Test.YtcfhfhpdnjaokaaGreatDoorM5
import Derived.Test.YtcfhfhpdnjaokaaGreatDoorM1
import Derived.Test.YtcfhfhpdnjaokaaGreatDoorM3

/- Walks: results that are good, and those that failed, of the reference and of the program. -/
namespace Go.Proofs.YtcfhfhpdnjaokaaGreatDoor
open Go.RowKit Pth

theorem bthR {B : Nat} {w w1 w2 : World} (h : Below B w w1) (k : Below w1.heap.size w1 w2) (hB : B ≤ w.heap.size := by exact Nat.le_refl _) : Below B w w2 := h.trans (k.mono (Nat.le_trans hB h.size))
/-- Whether a result is one. -/
def resOk (r : ResT) : Bool := decide (0 ≤ r.2) && decide (r.2 ≤ 2) && decide (r.1.length ≤ 40) && (decide (r.2 = 0) || decide (r.1 = []))
def resA (l : List ResT) : Bool := decide (l.length ≤ 10) && l.all resOk
/-- Those of the first k that failed. -/
def failK (l : List ResT) (k : Nat) : List Int := ((List.range k).filter (fun j => decide ((l.getD j noRes).2 = 1))).map Int.ofNat
def failA (l : List ResT) : List Int := if resA l then failK l l.length else []
theorem failK_len (l : List ResT) (k : Nat) : (failK l k).length ≤ k := by
  unfold failK
  rw [List.length_map]
  exact Nat.le_trans (List.length_filter_le _ _) (by simp)
theorem failK_yes {l : List ResT} {k : Nat} (hk : k < l.length) (h : l[k].2 = 1) : failK l (k + 1) = failK l k ++ [(k : Int)] := by
  unfold failK
  rw [List.range_succ, List.filter_append, List.map_append]
  have : (l[k]?.getD noRes).2 = 1 := by rw [List.getElem?_eq_getElem hk]; exact h
  simp [this]
theorem failK_no {l : List ResT} {k : Nat} (hk : k < l.length) (h : l[k].2 ≠ 1) : failK l (k + 1) = failK l k := by
  unfold failK
  rw [List.range_succ, List.filter_append, List.map_append]
  have : ¬ (l[k]?.getD noRes).2 = 1 := by rw [List.getElem?_eq_getElem hk]; exact h
  simp [this]
theorem res_bad {l : List ResT} {k : Nat} (hk : k < l.length) (h : resOk l[k] = false) : resA l = false := by
  unfold resA
  rw [show l.all resOk = false from List.all_eq_false.2 ⟨l[k], List.getElem_mem hk, by simp [h]⟩, Bool.and_false]
theorem res_next {l : List ResT} {k : Nat} (hk : k < l.length) (ha : (l.take k).all resOk = true) (h : resOk l[k] = true) : (l.take (k + 1)).all resOk = true := by
  rw [List.take_succ_eq_append_getElem hk, List.all_append, ha]; simp [h]
theorem res_end {l : List ResT} {k : Nat} (hk : l.length ≤ k) (ha : (l.take k).all resOk = true) : resA l = decide (l.length ≤ 10) := by
  rw [List.take_of_length_le hk] at ha
  unfold resA; rw [ha, Bool.and_true]
theorem resA_small {l : List ResT} (h : resA l = true) : l.length ≤ 10 ∧ ∀ r ∈ l, r.1.length ≤ 40 := by
  unfold resA at h
  simp only [Bool.and_eq_true, decide_eq_true_eq, List.all_eq_true] at h
  refine ⟨h.1, fun r hr => ?_⟩
  have := h.2 r hr
  simp only [resOk, Bool.and_eq_true, decide_eq_true_eq] at this
  exact this.1.2

set_option maxRecDepth 20000 in
set_option maxHeartbeats 2000000 in
theorem specResults_any (l : List ResT) (v : Value) (w : World) (hrow : RowR w v l) (hx : ∀ f ∈ l, f.1.length ≤ maxLen) :
    Calls Tryz.prog 88 #[v] w (BoolPost (resA l) w) := by
  obtain ⟨a, cap, rfl, hc1, hc2, hat⟩ := hrow.res
  clear hrow
  unfold maxLen at hc2 hx
  go_enter Tryz.func88, Tryz.ntmps88
  go_wp2_with fail
  go_loopw [7] (fun i wr => ∃ k : Nat, k ≤ l.length ∧ i = .int .i64 k ∧ Hid (Below w.heap.size w wr) ∧ Hid ((l.take k).all resOk = true)) (fun i _ => l.length - (intOf i).toNat)
  case atStart => exact ⟨0, Nat.zero_le _, rfl, Below.refl _ _, by simp [Hid]⟩
  case round =>
    obtain ⟨k, hk, rfl, HB, HO⟩ := hrel
    have hbs := HB.out.size
    by_cases hlt : k < l.length
    · obtain ⟨g, o, rfl, hg, hcell1, hcell2⟩ := hat k hlt
      have s1 := (HB.out.cell (p := ⟨g, o + k * 2, none⟩) hg).trans hcell1
      have s2 := (HB.out.cell (p := ⟨g, o + k * 2 + 1, none⟩) hg).trans hcell2
      have HBA := Lib.hid (HB.out.alloc hbs (.cells #[.string ⟨l[k].1.toArray⟩, .int .i64 l[k].2] 41))
      have hxl := hx l[k] (List.getElem_mem hlt)
      obtain ⟨b1, hb1⟩ : ∃ b, (decide (0 ≤ l[k].2) && decide (l[k].2 ≤ 2)) = b := ⟨_, rfl⟩
      obtain ⟨b2, hb2⟩ : ∃ b, decide (l[k].1.length ≤ 40) = b := ⟨_, rfl⟩
      obtain ⟨b3, hb3⟩ : ∃ b, decide (l[k].2 = 0) = b := ⟨_, rfl⟩
      obtain ⟨b4, hb4⟩ : ∃ b, decide (l[k].1 = []) = b := ⟨_, rfl⟩
      have HC := Lib.hid (fun W => in_l hb1 W)
      have HS : Hid (if (b1 && b2 && (b3 || b4)) then (l.take (k + 1)).all resOk = true else resA l = false) := by
        unfold Hid
        have hR : resOk l[k] = (b1 && b2 && (b3 || b4)) := by unfold resOk; rw [hb1, hb2, hb3, hb4]
        split
        · rename_i h; exact res_next hlt HO.out (by rw [hR, h])
        · rename_i h; exact res_bad hlt (by rw [hR]; simpa using h)
      have e2 : decide ((l[k].1.length : Int) > 40) = !b2 := by rw [← hb2, Bool.eq_iff_iff]; simp <;> omega
      have e3 : (l[k].2 != 0) = !b3 := by rw [← hb3]; rfl
      have e4 := nil_b hb4
      clear hcell1 hcell2 hat HO hx hb1 hb2 hb3 hb4
      generalize l[k] = x at s1 s2 HC HBA hxl e2 e3 e4
      obtain ⟨x1, x2⟩ := x
      simp only at s1 s2 HC HBA hxl e2 e3 e4
      rcases b1 with _ | _
      · clear e2 e3 e4
        go_wp2_with fail
        refine (HC.out _).mono ?_
        rintro e w1 ⟨rfl, rfl⟩
        go_wp2_with fail
        go_ret
        exact ⟨ret_bool (by have := HS.out; simpa using this.symm), HBA.out⟩
      · rcases b2 with _ | _
        · simp only [Bool.not_false] at e2
          clear e3 e4
          go_wp2_with fail
          refine (HC.out _).mono ?_
          rintro e w1 ⟨rfl, rfl⟩
          go_wp2_with fail
          go_ret
          exact ⟨ret_bool (by have := HS.out; simpa using this.symm), HBA.out⟩
        · simp only [Bool.not_true] at e2
          rcases b3 with _ | _
          · simp only [Bool.not_false] at e3
            rcases b4 with _ | _
            · go_wp2_with fail
              refine (HC.out _).mono ?_
              rintro e w1 ⟨rfl, rfl⟩
              go_wp2_with fail
              go_ret
              exact ⟨ret_bool (by have := HS.out; simpa using this.symm), HBA.out⟩
            · go_wp2_with fail
              refine (HC.out _).mono ?_
              rintro e w1 ⟨rfl, rfl⟩
              go_wp2_with fail
              go_roundw
              case rel => exact ⟨k + 1, by omega, by go_num, HBA, by have := HS.out; simpa [Hid] using this⟩
              case measure => simp [intOf]; omega
          · simp only [Bool.not_true] at e3
            clear e4
            go_wp2_with fail
            refine (HC.out _).mono ?_
            rintro e w1 ⟨rfl, rfl⟩
            go_wp2_with fail
            go_roundw
            case rel => exact ⟨k + 1, by omega, by go_num, HBA, by have := HS.out; simpa [Hid] using this⟩
            case measure => simp [intOf]; omega
    · have HT : Hid (resA l = decide (l.length ≤ 10)) := res_end (by omega) HO.out
      clear HO hat hx
      go_wp2_with fail
      go_ret
      refine ⟨?_, HB.out⟩
      rw [HT.out]
      show Ending.returned (.bool (decide ((l.length : Int) ≤ 10))) = _
      congr 2
      simp only [decide_eq_decide]
      omega

theorem specResults_b {l : List ResT} {b : Bool} (h : resA l = b) (v : Value) (w : World) (hrow : RowR w v l) (hx : ∀ f ∈ l, f.1.length ≤ maxLen) : Calls Tryz.prog 88 #[v] w (BoolPost b w) := by
  have := specResults_any l v w hrow hx; rwa [h] at this

set_option maxRecDepth 20000 in
set_option maxHeartbeats 2000000 in
theorem specFailed_any (l : List ResT) (v : Value) (w : World) (hrow : RowR w v l) (hx : ∀ f ∈ l, f.1.length ≤ maxLen) :
    Calls Tryz.prog 27 #[v] w (IntsOk (failA l) (resA l) w) := by
  rcases hG : resA l with _ | _
  · have HC := Lib.hid (specResults_b hG v w hrow hx)
    have HT : Hid (failA l = []) := by rw [failA, hG]; rfl
    clear hG hx hrow
    go_enter Tryz.func27, Tryz.ntmps27
    go_wp2_with fail
    refine HC.out.mono ?_
    rintro e w1 ⟨rfl, hb1⟩
    have HB1 := Lib.hid hb1
    clear hb1 HC
    go_wp2_with fail
    go_ret2
    exact ⟨_, rfl, by rw [HT.out]; exact none_own _ _ _, HB1.out⟩
  · have HC := Lib.hid (specResults_b hG v w hrow hx)
    have HT : Hid (failA l = failK l l.length) := by rw [failA, hG]; rfl
    have h10 := (resA_small hG).1
    obtain ⟨a, cap, rfl, hc1, hc2, hat⟩ := hrow.res
    clear hG hrow hx
    unfold maxLen at hc2
    go_enter Tryz.func27, Tryz.ntmps27
    go_wp2_with fail
    refine HC.out.mono ?_
    rintro e w1 ⟨rfl, hb1⟩
    have HB0 := Lib.hid hb1
    clear hb1 HC
    go_wp2_with fail
    go_loopw [4, 12] (fun q i wr => ∃ k : Nat, k ≤ l.length ∧ i = .int .i64 k ∧ Hid (Below w.heap.size w wr) ∧ Hid (wr.ownsRow w.heap.size 3 1 q (failK l k).length (I (failK l k)))) (fun _ i _ => l.length - (intOf i).toNat)
    case atStart => exact ⟨0, Nat.zero_le _, rfl, HB0.out, none_own _ _ _⟩
    case round =>
      clear HB0
      obtain ⟨k, hk, rfl, HB, HN⟩ := hrel
      have hbs := HB.out.size
      have hkl := failK_len l k
      by_cases hlt : k < l.length
      · obtain ⟨g, o, rfl, hg, hcell1, hcell2⟩ := hat k hlt
        have s1 := (HB.out.cell (p := ⟨g, o + k * 2, none⟩) hg).trans hcell1
        have s2 := (HB.out.cell (p := ⟨g, o + k * 2 + 1, none⟩) hg).trans hcell2
        have HBA := Lib.hid (HB.out.alloc hbs (.cells #[.string ⟨l[k].1.toArray⟩, .int .i64 l[k].2] 41))
        have HNA := Lib.hid (own_I (HN.out.alloc (.cells #[.string ⟨l[k].1.toArray⟩, .int .i64 l[k].2] 41)))
        clear hcell1 hcell2 hat HN
        by_cases h1 : l[k].2 = 1
        · have HE := Lib.hid (failK_yes hlt h1)
          have hd : (l[k].2 == 1) = true := by simp [h1]
          clear h1
          generalize l[k] = x at s1 s2 HBA HNA hd
          obtain ⟨x1, x2⟩ := x
          simp only at s1 s2 HBA HNA hd
          generalize failK l k = m at HE HNA hkl
          have hIl : (I m).length ≤ 1000000 := by rw [I_len]; omega
          go_wp2_with (at_builtin; refine wpAppOne elemI rfl _ _ rfl w.heap.size _ (I m) rfl HNA.out _ rfl (by simp) rfl hIl HBA.out.size ?_; intro v7 w7 hown7 hg7; have HN7 := Lib.hid (own_I2 hown7); have HB7 := Lib.hid (HBA.out.trans (below_own HNA.out hg7 HBA.out.size)); clear hown7 hg7)
          go_roundw
          case rel => exact ⟨k + 1, by omega, by go_num, HB7, by rw [HE.out]; exact HN7.out⟩
          case measure => simp [intOf]; omega
        · have HE := Lib.hid (failK_no hlt h1)
          have hd : (l[k].2 == 1) = false := by simpa using h1
          clear h1
          generalize l[k] = x at s1 s2 HBA HNA hd
          obtain ⟨x1, x2⟩ := x
          simp only at s1 s2 HBA HNA hd
          go_wp2_with fail
          go_roundw
          case rel => exact ⟨k + 1, by omega, by go_num, HBA, by rw [HE.out]; have := HNA.out; rwa [I_len] at this⟩
          case measure => simp [intOf]; omega
      · obtain rfl : k = l.length := by omega
        clear hat
        go_wp2_with fail
        go_ret2
        exact ⟨_, rfl, by rw [HT.out]; exact HN.out, HB.out⟩

-- the program's
theorem longR_b {x : List UInt8} {b : Bool} (h : decide (x.length ≤ 40) = b) (w : World) (_hl : x.length ≤ maxLen) : Calls Tryz.prog 79 #[.string ⟨x.toArray⟩] w fun e w' => e = .returned (.bool (!b)) ∧ w = w' := by
  go_enter Tryz.func79, Tryz.ntmps79
  go_wp2
  go_ret
  refine ⟨?_, rfl⟩
  congr 2
  rw [← h]
  simp
  rw [Bool.eq_iff_iff]
  simp <;> omega

set_option maxHeartbeats 1000000 in
theorem noRes_b {o : ResT} {b : Bool} (h : resOk o = b) (w : World) (hx : o.1.length ≤ maxLen) :
    Calls Tryz.prog 147 #[resV o] w (BoolPost (!b) w) := by
  obtain ⟨t, n⟩ := o
  subst h
  unfold resV
  simp only at hx ⊢
  have HB := Lib.hid ((Below.refl w.heap.size w).alloc (Nat.le_refl _) (.cells #[.string ⟨t.toArray⟩, .int .i64 n] 41))
  obtain ⟨b2, hb2⟩ : ∃ b, decide (t.length ≤ 40) = b := ⟨_, rfl⟩
  have HC := Lib.hid (fun W => longR_b hb2 W hx)
  unfold maxLen at hx
  by_cases k0 : n = 0
  · subst k0
    have HT : Hid (resOk (t, 0) = b2) := by unfold resOk; rw [hb2]; simp [Hid]
    clear hb2
    go_enter Tryz.func147, Tryz.ntmps147
    go_wp2_with fail
    refine (HC.out _).mono ?_
    rintro e w1 ⟨rfl, rfl⟩
    go_wp2_with fail
    go_ret
    exact ⟨by rw [HT.out] <;> rfl, HB.out⟩
  have e0 : (n == 0) = false := by simpa using k0
  obtain ⟨b4, hb4⟩ : ∃ b, decide (t = []) = b := ⟨_, rfl⟩
  have e4 := nil_b hb4
  have hle : b4 = true → b2 = true := by rintro rfl; rw [← hb2]; have := of_decide_eq_true hb4; rw [this]; rfl
  by_cases k12 : n = 1 ∨ n = 2
  · have HT : Hid (resOk (t, n) = b4) := by
      unfold resOk; rw [hb2, hb4]
      rcases k12 with rfl | rfl <;> (cases b4 <;> simp_all [Hid])
    clear hb2 hb4 hle HC e0 k0
    rcases k12 with rfl | rfl <;> rcases b4 with _ | _ <;>
      (go_enter Tryz.func147, Tryz.ntmps147
       go_wp2_with fail
       go_ret
       exact ⟨by rw [HT.out] <;> rfl, HB.out⟩)
  · have HT : Hid (resOk (t, n) = false) := by
      unfold resOk Hid
      have : (decide (0 ≤ n) && decide (n ≤ 2)) = false := by simp; omega
      rw [this]; rfl
    have e1 : (n != 1) = true := by simp; omega
    have e2 : (n != 2) = true := by simp; omega
    clear hb2 hb4 hle HC k0 e4 k12
    go_enter Tryz.func147, Tryz.ntmps147
    go_wp2_with fail
    go_ret
    exact ⟨by rw [HT.out] <;> rfl, HB.out⟩

/-- Whether one is none. -/
def noneL (l : List ResT) : Bool := l.any (fun r => !resOk r)
theorem none_at {l : List ResT} {k : Nat} (h : k < l.length) (hx : resOk l[k] = false) : noneL l = true := by
  rw [noneL, List.any_eq_true]
  exact ⟨l[k], List.getElem_mem h, by simp [hx]⟩
theorem none_all {l : List ResT} (h : l.all resOk = true) : noneL l = false := by
  rw [noneL, List.any_eq_false]
  intro x hm
  have := List.all_eq_true.1 h x hm
  simp [this]

set_option maxRecDepth 20000 in
set_option maxHeartbeats 2000000 in
theorem index_anyR (l : List ResT) (v : Value) (w : World) (hrow : RowR w v l) (hx : ∀ f ∈ l, f.1.length ≤ maxLen) :
    Calls Tryz.prog 177 #[v, .func (.func 147) #[] #[]] w fun e w' => ∃ i : Int, e = .returned (.int .i64 i) ∧ (0 ≤ i ↔ noneL l = true) ∧ Below w.heap.size w w' := by
  obtain ⟨a, cap, rfl, hc1, hc2, hat⟩ := hrow.res
  clear hrow
  unfold maxLen at hc2
  go_enter Tryz.func177, Tryz.ntmps177
  go_wp2_with fail
  go_loopw [8] (fun i wr => ∃ k : Nat, k ≤ l.length ∧ i = .int .i64 k ∧ Hid (Below w.heap.size w wr) ∧ Hid ((l.take k).all resOk = true)) (fun i _ => l.length - (intOf i).toNat)
  case atStart => exact ⟨0, Nat.zero_le _, by go_num, Below.refl _ _, by simp [Hid]⟩
  case round =>
    obtain ⟨k, hk, rfl, HB, HO⟩ := hrel
    by_cases hlt : k < l.length
    · obtain ⟨g, o, rfl, hg, hcell1, hcell2⟩ := hat k hlt
      have s1 := (HB.out.cell (p := ⟨g, o + k * 2, none⟩) hg).trans hcell1
      have s2 := (HB.out.cell (p := ⟨g, o + k * 2 + 1, none⟩) hg).trans hcell2
      have hxl := hx l[k] (List.getElem_mem hlt)
      have hltz : (k : Int) < (l.length : Int) := by omega
      obtain ⟨b, hbE⟩ : ∃ b, resOk l[k] = b := ⟨_, rfl⟩
      have HC := Lib.hid (fun W => noRes_b hbE W hxl)
      rcases b with _ | _
      · have HS := Lib.hid (none_at hlt hbE)
        clear hcell1 hcell2 hat HO hx hxl hbE
        generalize l[k] = x at s1 s2 HC
        obtain ⟨x1, x2⟩ := x
        unfold resV at HC
        simp only at s1 s2 HC
        go_wp2_with (go_at_call 147; refine (HC.out _).mono ?_; rintro e w1 ⟨rfl, hb1⟩; have HB1 := Lib.hid (bthR HB.out hb1); clear hb1)
        go_ret
        exact ⟨(k : Int), rfl, by rw [HS.out]; simp, HB1.out⟩
      · have HS := Lib.hid (res_next hlt HO.out hbE)
        clear hcell1 hcell2 hat HO hx hxl hbE
        generalize l[k] = x at s1 s2 HC
        obtain ⟨x1, x2⟩ := x
        unfold resV at HC
        simp only at s1 s2 HC
        go_wp2_with (go_at_call 147; refine (HC.out _).mono ?_; rintro e w1 ⟨rfl, hb1⟩; have HB1 := Lib.hid (bthR HB.out hb1); clear hb1)
        go_roundw
        case rel => exact ⟨k + 1, by omega, by go_num, HB1, HS⟩
        case measure => simp [intOf]; omega
    · have HS : Hid (noneL l = false) := none_all (by have := HO.out; rwa [List.take_of_length_le (by omega)] at this)
      have hltz : ¬ ((k : Int) < (l.length : Int)) := by omega
      clear hat HO hx
      go_wp2_with fail
      go_ret
      exact ⟨-1, rfl, by rw [HS.out]; simp, HB.out⟩

set_option maxRecDepth 20000 in
set_option maxHeartbeats 1000000 in
theorem contains_anyR (l : List ResT) (v : Value) (w : World) (hrow : RowR w v l) (hx : ∀ f ∈ l, f.1.length ≤ maxLen) :
    Calls Tryz.prog 146 #[v, .func (.func 147) #[] #[]] w (BoolPost (noneL l) w) := by
  have HC := Lib.hid (index_anyR l v w hrow hx)
  clear hrow hx
  go_enter Tryz.func146, Tryz.ntmps146
  go_wp2_with fail
  refine HC.out.mono ?_
  rintro e w1 ⟨i, rfl, hi, hb1⟩
  have HI := Lib.hid hi
  have HB1 := Lib.hid hb1
  clear hi HC hb1
  go_wp2_with fail
  go_ret
  refine ⟨?_, HB1.out⟩
  show Ending.returned (.bool (decide (0 ≤ i))) = _
  congr 2
  rw [Bool.eq_iff_iff, decide_eq_true_eq]
  exact HI.out
theorem contains_bR {l : List ResT} {b : Bool} (h : noneL l = b) (v : Value) (w : World) (hrow : RowR w v l) (hx : ∀ f ∈ l, f.1.length ≤ maxLen) :
    Calls Tryz.prog 146 #[v, .func (.func 147) #[] #[]] w (BoolPost b w) := by
  have := contains_anyR l v w hrow hx; rwa [h] at this
theorem resA_is (l : List ResT) : resA l = (decide (l.length ≤ 10) && !noneL l) := by
  unfold resA
  rcases h : l.all resOk with _ | _
  · obtain ⟨x, hm, hx⟩ := List.all_eq_false.1 h
    have : noneL l = true := by rw [noneL, List.any_eq_true]; exact ⟨x, hm, by simpa using hx⟩
    rw [this]; rfl
  · rw [none_all h]; rfl

set_option maxRecDepth 20000 in
set_option maxHeartbeats 1000000 in
theorem areRes_b {l : List ResT} {b : Bool} (h : resA l = b) (v : Value) (w : World) (hrow : RowR w v l) (hx : ∀ f ∈ l, f.1.length ≤ maxLen) :
    Calls Tryz.prog 87 #[v] w (BoolPost b w) := by
  rw [resA_is] at h
  obtain ⟨c, hc⟩ : ∃ c, noneL l = c := ⟨_, rfl⟩
  have HC := Lib.hid (contains_bR hc v w hrow hx)
  obtain ⟨a, cap, rfl, hc1, hc2, _⟩ := hrow.res
  rw [hc] at h
  clear hrow hx hc
  unfold maxLen at hc2
  by_cases h10 : l.length ≤ 10
  · have hd : decide ((l.length : Int) ≤ 10) = true := by simp; omega
    have HT : Hid (b = !c) := by rw [← h, decide_eq_true h10]; rfl
    clear h h10
    go_enter Tryz.func87, Tryz.ntmps87
    go_wp2_with fail
    refine HC.out.mono ?_
    rintro e w1 ⟨rfl, hb1⟩
    have HB1 := Lib.hid hb1
    clear hb1 HC
    go_wp2_with fail
    go_ret
    exact ⟨by rw [HT.out] <;> rfl, HB1.out⟩
  · have hd : decide ((l.length : Int) ≤ 10) = false := by simp; omega
    have HT : Hid (b = false) := by rw [← h, decide_eq_false h10]; rfl
    clear h h10 HC
    go_enter Tryz.func87, Tryz.ntmps87
    go_wp2_with fail
    go_ret
    exact ⟨by rw [HT.out] <;> rfl, Below.refl _ _⟩

set_option maxRecDepth 20000 in
set_option maxHeartbeats 2000000 in
theorem implFailed_any (l : List ResT) (v : Value) (w : World) (hrow : RowR w v l) (hx : ∀ f ∈ l, f.1.length ≤ maxLen) :
    Calls Tryz.prog 26 #[v] w (IntsOk (failA l) (resA l) w) := by
  rcases hG : resA l with _ | _
  · have HC := Lib.hid (areRes_b hG v w hrow hx)
    have HT : Hid (failA l = []) := by rw [failA, hG]; rfl
    clear hG hx hrow
    go_enter Tryz.func26, Tryz.ntmps26
    go_wp2_with fail
    refine HC.out.mono ?_
    rintro e w1 ⟨rfl, hb1⟩
    have HB1 := Lib.hid hb1
    clear hb1 HC
    go_wp2_with fail
    go_ret2
    exact ⟨_, rfl, by rw [HT.out]; exact none_own _ _ _, HB1.out⟩
  · have HC := Lib.hid (areRes_b hG v w hrow hx)
    have HT : Hid (failA l = failK l l.length) := by rw [failA, hG]; rfl
    have h10 := (resA_small hG).1
    obtain ⟨a, cap, rfl, hc1, hc2, hat⟩ := hrow.res
    clear hG hrow hx
    unfold maxLen at hc2
    go_enter Tryz.func26, Tryz.ntmps26
    go_wp2_with fail
    refine HC.out.mono ?_
    rintro e w1 ⟨rfl, hb1⟩
    have HB0 := Lib.hid hb1
    clear hb1 HC
    go_wp2_with fail
    go_loopw [4, 12] (fun q i wr => ∃ k : Nat, k ≤ l.length ∧ i = .int .i64 k ∧ Hid (Below w.heap.size w wr) ∧ Hid (wr.ownsRow w.heap.size 3 1 q (failK l k).length (I (failK l k)))) (fun _ i _ => l.length - (intOf i).toNat)
    case atStart => exact ⟨0, Nat.zero_le _, rfl, HB0.out, none_own _ _ _⟩
    case round =>
      clear HB0
      obtain ⟨k, hk, rfl, HB, HN⟩ := hrel
      have hbs := HB.out.size
      have hkl := failK_len l k
      by_cases hlt : k < l.length
      · obtain ⟨g, o, rfl, hg, hcell1, hcell2⟩ := hat k hlt
        have s1 := (HB.out.cell (p := ⟨g, o + k * 2, none⟩) hg).trans hcell1
        have s2 := (HB.out.cell (p := ⟨g, o + k * 2 + 1, none⟩) hg).trans hcell2
        have HBA := Lib.hid (HB.out.alloc hbs (.cells #[.string ⟨l[k].1.toArray⟩, .int .i64 l[k].2] 41))
        have HNA := Lib.hid (own_I (HN.out.alloc (.cells #[.string ⟨l[k].1.toArray⟩, .int .i64 l[k].2] 41)))
        clear hcell1 hcell2 hat HN
        by_cases h1 : l[k].2 = 1
        · have HE := Lib.hid (failK_yes hlt h1)
          have hd : (l[k].2 == 1) = true := by simp [h1]
          clear h1
          generalize l[k] = x at s1 s2 HBA HNA hd
          obtain ⟨x1, x2⟩ := x
          simp only at s1 s2 HBA HNA hd
          generalize failK l k = m at HE HNA hkl
          have hIl : (I m).length ≤ 1000000 := by rw [I_len]; omega
          go_wp2_with (at_builtin; refine wpAppOne elemI rfl _ _ rfl w.heap.size _ (I m) rfl HNA.out _ rfl (by simp) rfl hIl HBA.out.size ?_; intro v7 w7 hown7 hg7; have HN7 := Lib.hid (own_I2 hown7); have HB7 := Lib.hid (HBA.out.trans (below_own HNA.out hg7 HBA.out.size)); clear hown7 hg7)
          go_roundw
          case rel => exact ⟨k + 1, by omega, by go_num, HB7, by rw [HE.out]; exact HN7.out⟩
          case measure => simp [intOf]; omega
        · have HE := Lib.hid (failK_no hlt h1)
          have hd : (l[k].2 == 1) = false := by simpa using h1
          clear h1
          generalize l[k] = x at s1 s2 HBA HNA hd
          obtain ⟨x1, x2⟩ := x
          simp only at s1 s2 HBA HNA hd
          go_wp2_with fail
          go_roundw
          case rel => exact ⟨k + 1, by omega, by go_num, HBA, by rw [HE.out]; have := HNA.out; rwa [I_len] at this⟩
          case measure => simp [intOf]; omega
      · obtain rfl : k = l.length := by omega
        clear hat
        go_wp2_with fail
        go_ret2
        exact ⟨_, rfl, by rw [HT.out]; exact HN.out, HB.out⟩

end Go.Proofs.YtcfhfhpdnjaokaaGreatDoor

/- Walks: the law that those that failed are told alike. -/
namespace Go.Proofs.YtcfhfhpdnjaokaaGreatDoor
open Go.RowKit Pth

/-- The law says yes, and nothing that lay there has turned. -/
def YesW (w : World) (e : Ending) (w' : World) : Prop := e = .returned (.bool true) ∧ Below w.heap.size w w'
theorem failA_short (l : List ResT) : (failA l).length ≤ 10 := by
  unfold failA
  split
  · rename_i h
    have := (resA_small h).1
    have := failK_len l l.length
    omega
  · simp
/-- A list that another list's block is no part of. -/
theorem own_besideR {w w' : World} {B1 e n : Nat} {v u : Value} {xs : List Value} (h : w.ownsRow B1 e 1 v n xs) (hg : w.grownBy w' u.ownBlock) (hu : ∀ k, u.ownBlock = some k → k < B1) : w'.ownsRow B1 e 1 v n xs := by
  refine h.kept hg ?_
  rcases hv : v.ownBlock with _ | k
  · exact .inl rfl
  · refine .inr (fun e => ?_)
    have h1 := (h.lt k hv).1
    have h2 := hu k e.symm
    omega
end Go.Proofs.YtcfhfhpdnjaokaaGreatDoor

/- Walks: the law that what is made of results is told alike, given contracts of both programs. -/
namespace Go.Proofs.YtcfhfhpdnjaokaaGreatDoor
open Go.RowKit Pth

set_option maxRecDepth 20000 in
set_option maxHeartbeats 16000000 in
theorem exactMakeOne_of (ls : List (List Int)) (l : List Int) (bs : List Bool) (rs : List (List OpT)) (m1 : List ResT) (t : Int) (p : ResT) (G : Bool) (v u1 : Value) (w : World) (hst : PlanV w v ls l bs rs) (hx : ∀ l ∈ rs, ∀ f ∈ l, f.2.2.length ≤ maxLen) (hm1 : RowR w u1 m1) (hx1 : ∀ f ∈ m1, f.1.length ≤ maxLen)
    (hsp : ∀ W u y1, PlanV W u ls l bs rs → RowR W y1 m1 → Calls Tryz.prog 30 #[u, y1, .int .i64 t] W (fun e w' => e = .returned (.tuple #[resV p, .bool G]) ∧ Below W.heap.size W w'))
    (him : ∀ W u y1, PlanV W u ls l bs rs → RowR W y1 m1 → Calls Tryz.prog 21 #[u, y1, .int .i64 t] W (fun e w' => e = .returned (.tuple #[resV p, .bool G]) ∧ Below W.heap.size W w')) :
    Calls Tryz.prog 8 #[v, u1, .int .i64 t] w (YesW w) := by
  have HST := Lib.hid hst
  have HSP := Lib.hid hsp
  have HIM := Lib.hid him
  clear hsp him
  obtain ⟨pb, ps⟩ := p
  unfold resV at HSP HIM
  simp only at HSP HIM
  obtain ⟨nv, ov, sv, rv, rfl, h1, h2, h3, h4⟩ := hst
  obtain ⟨as0, cs, rfl, hs1, hs2, _⟩ := h3.boolsW
  obtain ⟨an, cn, rfl, hn1, hn2, _⟩ := h1.lists
  obtain ⟨ao, co, rfl, ho1, ho2, _⟩ := h2.ints
  obtain ⟨ar, cr, rfl, hr1, hr2, _⟩ := h4.lists
  clear h1 h2 h3 h4
  have HM1 := Lib.hid hm1
  have HX1 := Lib.hid hx1
  obtain ⟨ma1, mc1, rfl, hma1, hmb1, _⟩ := hm1.res
  clear hm1 hx1
  unfold maxLen at hs2 hn2 ho2 hr2 hmb1
  obtain ⟨wa, hwa⟩ : ∃ wa, wa = w.alloc (.cells #[.slice an ls.length cn, .slice ao l.length co, .slice as0 bs.length cs, .slice ar rs.length cr] 76) := ⟨_, rfl⟩
  have hsz : wa.heap.size = w.heap.size + 1 := by rw [hwa]; simp
  have P0 : Hid (Blk4 wa w.heap.size 76 (.slice an ls.length cn) (.slice ao l.length co) (.slice as0 bs.length cs) (.slice ar rs.length cr)) := by rw [hwa]; exact Blk4.new
  have HA : Hid (Below w.heap.size w wa) := by rw [hwa]; exact (Below.refl w.heap.size w).alloc (Nat.le_refl _) _
  have hlt0 : w.heap.size < wa.heap.size := by omega
  obtain ⟨c0, c1, c2, c3⟩ := P0.out.cells
  have HWA := Lib.hid hwa
  have HS := Lib.hid (szPlan_any ls l bs rs 1048576 _ wa (HST.out.below HA.out) hx (by omega))
  have HPV : Hid (∀ W, Below wa.heap.size wa W → PlanV W (.agg #[.slice an ls.length cn, .slice ao l.length co, .slice as0 bs.length cs, .slice ar rs.length cr]) ls l bs rs) := fun W h => HST.out.below (bth HA.out h (Nat.le_refl _))
  have HMV1 : Hid (∀ W, Below wa.heap.size wa W → RowR W (.slice ma1 m1.length mc1) m1) := fun W h => HM1.out.below (bth HA.out h (Nat.le_refl _))
  clear hwa hx
  go_enter Tryz.func8, Tryz.ntmps8
  go_wp2_with fail
  rw [← HWA.out]
  refine HS.out.mono ?_
  rintro e w1 ⟨r0, rfl, hle0, hr0, hb1⟩
  have K0 := Lib.hid hb1
  clear hb1 HS c0 c1 c2 c3
  by_cases h0 : r0 < 0
  · clear hr0 hle0
    go_wp2_with fail
    go_ret
    exact ⟨rfl, bth HA.out K0.out (Nat.le_refl _)⟩
  have hz : planZ ls l bs rs ≤ 1100000 := by have := hr0 (by omega); omega
  have hz2 : planZ ls l bs rs ≤ 2000000 := by omega
  obtain ⟨n0, rfl⟩ : ∃ n0 : Nat, r0 = n0 := ⟨r0.toNat, by omega⟩
  have hn0 : n0 ≤ 2000000 := by omega
  clear hr0
  go_wp2_with fail
  refine (szResultS_any m1 n0 _ w1 (HMV1.out w1 K0.out) HX1.out hn0).mono ?_
  rintro e x1 ⟨r1, rfl, hle1, hr1, hb1⟩
  have KX1 := Lib.hid (bth K0.out hb1 (Nat.le_refl _))
  clear hb1
  by_cases hc1 : r1 < 0
  · clear hr1
    go_wp2_with fail
    go_ret
    exact ⟨rfl, bth HA.out KX1.out (Nat.le_refl _)⟩
  have hml1 : m1.length ≤ 1100000 := by have := (hr1 (by omega)).1; omega
  clear hr1
  obtain ⟨c0, c1, c2, c3⟩ := (P0.out.below KX1.out hlt0).cells
  have HTO := Lib.hid (fun W (hb : PlanV W _ ls l bs rs) => toPlan_any ls l bs rs (.agg #[.slice an ls.length cn, .slice ao l.length co, .slice as0 bs.length cs, .slice ar rs.length cr]) W hb hz2)
  have HTI1 := Lib.hid (fun W (hb : RowR W _ m1) => toResultS_any m1 (.slice ma1 m1.length mc1) W hb (by omega))
  have HEI1 : Hid (∀ W x y, RowR W x m1 → RowR W y m1 → Calls Tryz.prog 57 #[x, y] W fun e w' => e = .returned (.bool true) ∧ Below W.heap.size W w') := fun W x y h1 h2 => by
    have := eqResultS_any m1 m1 x y W h1 h2 (by omega)
    rwa [decide_eq_true (rfl : m1 = m1)] at this
  have HE : Hid (∀ W x y, PlanV W x ls l bs rs → PlanV W y ls l bs rs → Calls Tryz.prog 58 #[x, y] W fun e w' => e = .returned (.bool true) ∧ Below W.heap.size W w') := fun W x y h1 h2 => eqPlan_same ls l bs rs x y W h1 h2 hz2
  have hne : (G != G) = false := by cases G <;> rfl
  -- the reference's answer
  go_wp2_with fail
  refine (HTO.out x1 (HPV.out x1 KX1.out)).mono ?_
  rintro e w2 ⟨v2, rfl, ho2', hb2⟩
  have K2 := Lib.hid (bth KX1.out hb2 (Nat.le_refl _))
  have HG2 := Lib.hid ho2'.view
  clear hb2 ho2' c0 c1 c2 c3
  go_wp2_with fail
  refine (HTI1.out w2 (HMV1.out w2 K2.out)).mono ?_
  rintro e p1 ⟨y1, rfl, hoy1, hbp1⟩
  have KP1 := Lib.hid (bth K2.out hbp1 (Nat.le_refl _))
  have HGP1 := Lib.hid (HG2.out.below hbp1)
  have HYP1_1 := Lib.hid (RowR.of_own hoy1)
  clear hoy1 hbp1
  go_wp2_with fail
  refine (HSP.out p1 v2 y1 HGP1.out HYP1_1.out).mono ?_
  rintro e w3 ⟨rfl, hb3⟩
  have K3 := Lib.hid (bth KP1.out hb3 (Nat.le_refl _))
  clear hb3
  obtain ⟨w3b, hw3b⟩ : ∃ w3b, w3b = w3.alloc (.cells #[.string ⟨pb.toArray⟩, .int .i64 ps] 41) := ⟨_, rfl⟩
  have R3 : Hid (Blk2 w3b w3.heap.size 41 (.string ⟨pb.toArray⟩) (.int .i64 ps)) := by rw [hw3b]; exact Blk2.new
  have hAw3 : Below w3.heap.size w3 w3b := by rw [hw3b]; exact (Below.refl w3.heap.size w3).alloc (Nat.le_refl _) _
  have hsw3 : w3b.heap.size = w3.heap.size + 1 := by rw [hw3b]; simp
  have Hw3 : Hid (w3.alloc (.cells #[.string ⟨pb.toArray⟩, .int .i64 ps] 41) = w3b) := by rw [hw3b]; rfl
  have KB3 := Lib.hid (bth K3.out hAw3 (Nat.le_refl _))
  have hlt3 : w.heap.size < w3.heap.size := by have := K3.out.size; omega
  clear hAw3 hw3b
  obtain ⟨c0, c1, c2, c3⟩ := (P0.out.below K3.out hlt0).cells
  -- copies of the arguments
  go_wp2_with fail
  rw [Hw3.out]
  refine (HTO.out w3b (HPV.out w3b KB3.out)).mono ?_
  rintro e w4 ⟨v4, rfl, ho4, hb4⟩
  have s34 := hb4.size
  have HO4 := Lib.hid ho4
  obtain ⟨bn, dn, bo, do', bb, db, br, dr, rfl⟩ := ho4.slices
  obtain ⟨wb, hwb⟩ : ∃ wb, wb = w4.alloc (.cells #[.slice bn ls.length dn, .slice bo l.length do', .slice bb bs.length db, .slice br rs.length dr] 30) := ⟨_, rfl⟩
  have X4 : Hid (Blk4 wb w4.heap.size 30 (.slice bn ls.length dn) (.slice bo l.length do') (.slice bb bs.length db) (.slice br rs.length dr)) := by rw [hwb]; exact Blk4.new
  have hAB : Below w4.heap.size w4 wb := by rw [hwb]; exact (Below.refl w4.heap.size w4).alloc (Nat.le_refl _) _
  have hsb : wb.heap.size = w4.heap.size + 1 := by rw [hwb]; simp
  have D4 := Lib.hid (Below.refl wb.heap.size wb)
  have A4 := Lib.hid (bth hb4 hAB (Nat.le_refl _))
  have E4 := Lib.hid hAB
  have KW4 := Lib.hid (bth (bth KB3.out hb4 (Nat.le_refl _)) hAB (Nat.le_refl _))
  have HWB := Lib.hid hwb
  clear hb4 ho4 c0 c1 c2 c3 hwb hAB
  go_wp2_with fail
  rw [← HWB.out]

  refine (HTI1.out wb (HMV1.out wb KW4.out)).mono ?_
  rintro e q1 ⟨x1, rfl, hox1, hbq1⟩
  have sq1 := hbq1.size
  have EQ1 := Lib.hid (bth E4.out hbq1 (Nat.le_refl _))
  have DQ1 := Lib.hid (bth D4.out hbq1 (Nat.le_refl _))
  have KQ1 := Lib.hid (bth KW4.out hbq1 (Nat.le_refl _))
  have AQ1 := Lib.hid (bth A4.out hbq1 (Nat.le_refl _))
  have HX1_1 := Lib.hid hox1
  clear hox1 hbq1
  obtain ⟨x00, x01, x02, x03⟩ := (X4.out.below DQ1.out (by omega)).cells
  -- the program's answer
  go_wp2_with fail
  refine (HIM.out q1 _ x1 (HO4.out.view.below EQ1.out) (RowR.of_own HX1_1.out)).mono ?_
  rintro e w6 ⟨rfl, hb6⟩
  have s6 := hb6.size
  have E6 := Lib.hid (bth EQ1.out hb6 (Nat.le_refl _))
  have D6 := Lib.hid (bth DQ1.out hb6 (Nat.le_refl _))
  have K6 := Lib.hid (bth KQ1.out hb6 (Nat.le_refl _))
  have HX1_6 := Lib.hid (own_belowG HX1_1.out hb6)
  have A6 := Lib.hid (bth AQ1.out hb6 (Nat.le_refl _))
  clear hb6 x00 x01 x02 x03
  obtain ⟨w6b, hw6b⟩ : ∃ w6b, w6b = w6.alloc (.cells #[.string ⟨pb.toArray⟩, .int .i64 ps] 41) := ⟨_, rfl⟩
  have R6 : Hid (Blk2 w6b w6.heap.size 41 (.string ⟨pb.toArray⟩) (.int .i64 ps)) := by rw [hw6b]; exact Blk2.new
  have hAw6 : Below w6.heap.size w6 w6b := by rw [hw6b]; exact (Below.refl w6.heap.size w6).alloc (Nat.le_refl _) _
  have hsw6 : w6b.heap.size = w6.heap.size + 1 := by rw [hw6b]; simp
  have Hw6 : Hid (w6.alloc (.cells #[.string ⟨pb.toArray⟩, .int .i64 ps] 41) = w6b) := by rw [hw6b]; rfl
  have hR36 := R3.out.below A6.out (by omega)
  obtain ⟨r30, r31⟩ := hR36.cells
  have hlt36 : w3.heap.size < w6.heap.size := by omega
  have E6b := Lib.hid (bth E6.out hAw6 (Nat.le_refl _))
  have D6b := Lib.hid (bth D6.out hAw6 (Nat.le_refl _))
  have K6b := Lib.hid (bth K6.out hAw6 (Nat.le_refl _))
  have HX1_6b := Lib.hid (own_belowG HX1_6.out hAw6)
  clear hAw6 hw6b hR36
  go_wp2_with fail
  rw [Hw6.out]
  have hee : decide (((pb, ps) : ResT) = (pb, ps)) = true := by simp
  have HEE := eqResult_b hee w6b
  unfold resV at HEE
  simp only at HEE
  refine HEE.mono ?_
  rintro e w7 ⟨rfl, hb7⟩
  have s7 := hb7.size
  have E7 := Lib.hid (bth E6b.out hb7 (Nat.le_refl _))
  have D7 := Lib.hid (bth D6b.out hb7 (Nat.le_refl _))
  have K7 := Lib.hid (bth K6b.out hb7 (Nat.le_refl _))
  have HX1_7 := Lib.hid (own_belowG HX1_6b.out hb7)
  clear hb7 r30 r31 hee HEE
  have hlt7 : w.heap.size < w7.heap.size := by omega
  have hlt8 : w4.heap.size < w7.heap.size := by omega
  have PD : Hid (Blk4 w7.drew w.heap.size 76 (.slice an ls.length cn) (.slice ao l.length co) (.slice as0 bs.length cs) (.slice ar rs.length cr)) := P0.out.below (Below.drew K7.out) hlt0
  have XD : Hid (Blk4 w7.drew w4.heap.size 30 (.slice bn ls.length dn) (.slice bo l.length do') (.slice bb bs.length db) (.slice br rs.length dr)) := X4.out.below (Below.drew D7.out) (by omega)
  have ks := And.intro PD.out.cells XD.out.cells
  have HX7 : Hid (PlanV w7.drew (.agg #[.slice bn ls.length dn, .slice bo l.length do', .slice bb bs.length db, .slice br rs.length dr]) ls l bs rs) := HO4.out.view.below (Below.drew E7.out)
  have HST7 : Hid (PlanV w7.drew (.agg #[.slice an ls.length cn, .slice ao l.length co, .slice as0 bs.length cs, .slice ar rs.length cr]) ls l bs rs) := HPV.out w7.drew (Below.drew K7.out)
  go_wp2_with fail
  -- the copy is as it was
  go_region_held3 (fun w' => (w'.cell? ⟨w.heap.size, 0, none⟩ = some (.slice an ls.length cn) ∧ w'.cell? ⟨w.heap.size, 1, none⟩ = some (.slice ao l.length co) ∧ w'.cell? ⟨w.heap.size, 2, none⟩ = some (.slice as0 bs.length cs) ∧ w'.cell? ⟨w.heap.size, 3, none⟩ = some (.slice ar rs.length cr)) ∧ (w'.cell? ⟨w4.heap.size, 0, none⟩ = some (.slice bn ls.length dn) ∧ w'.cell? ⟨w4.heap.size, 1, none⟩ = some (.slice bo l.length do') ∧ w'.cell? ⟨w4.heap.size, 2, none⟩ = some (.slice bb bs.length db) ∧ w'.cell? ⟨w4.heap.size, 3, none⟩ = some (.slice br rs.length dr))) (first | exact ks)
    (first
      | (go_at_call 55; refine (HTO.out _ (by exact HST7.out)).mono ?_; rintro e w7y ⟨v7, rfl, ho7, hb7⟩
         have ks := And.intro (PD.out.below hb7 hlt7).cells (XD.out.below hb7 hlt8).cells
         have HO7 := Lib.hid ho7.view
         have HXB := Lib.hid (PlanV.below (by exact HX7.out) hb7)
         have C7 := Lib.hid hb7
         clear ho7 hb7)
      | (go_at_call 58; refine (HE.out _ _ _ (by exact HXB.out) (by exact HO7.out)).mono ?_; rintro e w8 ⟨rfl, hb8⟩
         have C8 := Lib.hid (bth C7.out hb8 (Nat.le_refl _))
         have ks := And.intro (PD.out.below C8.out hlt7).cells (XD.out.below C8.out hlt8).cells
         clear hb8))
  all_goals
    have K8 := Lib.hid (bth (Below.drew K7.out) C8.out (Nat.le_refl _))
    have HX1_8 := Lib.hid (own_belowG (w := w7.drew) (show w7.drew.ownsRow wb.heap.size 41 2 _ _ _ from HX1_7.out) C8.out)
    clear ks PD XD HX7 HST7 HO7 HXB C7 C8
    go_wp2_with fail
    refine (HTI1.out w8 (HMV1.out w8 K8.out)).mono ?_
    rintro e r1 ⟨z1, rfl, hoz1, hbr1⟩
    have KR1 := Lib.hid (bth K8.out hbr1 (Nat.le_refl _))
    have HZ1 := Lib.hid (RowR.of_own hoz1)
    have HX1_R1 := Lib.hid (own_belowG HX1_8.out hbr1)
    clear hoz1 hbr1
    go_wp2_with fail
    refine (HEI1.out r1 _ _ (RowR.of_own HX1_R1.out) HZ1.out).mono ?_
    rintro e s1 ⟨rfl, hbs1⟩
    have KS1 := Lib.hid (bth KR1.out hbs1 (Nat.le_refl _))
    have HX1_S1 := Lib.hid (own_belowG HX1_R1.out hbs1)
    clear hbs1 HZ1
    go_wp2_with fail
    go_ret
    exact ⟨rfl, bth HA.out KS1.out (Nat.le_refl _)⟩

end Go.Proofs.YtcfhfhpdnjaokaaGreatDoor

/- Walks: whether a number is in a list, whether numbers rise (as chapter 2 has them). -/
namespace Go.Proofs.YtcfhfhpdnjaokaaGreatDoor
open Go.RowKit Pth

theorem has_next {l : List Int} {n : Int} {k : Nat} (hk : k < l.length) (h : hasL l n = hasL (l.drop k) n) (hn : l[k] ≠ n) : hasL l n = hasL (l.drop (k + 1)) n := by
  rw [h, List.drop_eq_getElem_cons hk, hasL, hasL, Bool.eq_iff_iff, decide_eq_true_iff, decide_eq_true_iff, List.mem_cons]
  constructor
  · rintro (h | h)
    · exact absurd h.symm hn
    · exact h
  · exact .inr

set_option maxHeartbeats 1000000 in
theorem l1Has_any (l : List Int) (n : Int) (v : Value) (w : World) (hrow : RowV w v (I l)) :
    Calls Tryz.prog 113 #[v, .int .i64 n] w fun e w' => e = .returned (.bool (hasL l n)) ∧ w = w' := by
  obtain ⟨a, cap, rfl, hc1, hc2, hat⟩ := hrow.ints
  clear hrow
  unfold maxLen at hc2
  go_enter Tryz.func113, Tryz.ntmps113
  go_wp2_with fail
  go_loop [9] (fun i => ∃ k : Nat, k ≤ l.length ∧ i = .int .i64 k ∧ Hid (hasL l n = hasL (l.drop k) n)) (fun i => l.length - (intOf i).toNat)
  case atStart => exact ⟨0, Nat.zero_le _, rfl, rfl⟩
  case round =>
    obtain ⟨k, hk, rfl, HO⟩ := hrel
    by_cases hlt : k < l.length
    · obtain ⟨g, o, rfl, hg, hcell⟩ := hat k hlt
      clear hat
      by_cases hx : l[k] = n
      · have HR : Hid (hasL l n = true) := by rw [hasL, decide_eq_true_iff, ← hx]; exact List.getElem_mem hlt
        have hx1 : (l[k] == n) = true := by simp [hx]
        generalize l[k] = x at hcell hx hx1
        clear HO hx
        go_wp2_with fail
        go_ret
        exact ⟨ret_bool HR.out.symm, rfl⟩
      · have HR : Hid (hasL l n = hasL (l.drop (k + 1)) n) := has_next hlt HO.out hx
        have hx1 : (l[k] == n) = false := by simp [hx]
        generalize l[k] = x at hcell hx hx1
        clear HO hx
        go_wp2_with fail
        go_round
        case rel => exact ⟨k + 1, by omega, by go_num, HR⟩
        case measure => simp [intOf]; omega
    · have HR : Hid (hasL l n = false) := by rw [HO.out, List.drop_of_length_le (by omega)]; rfl
      clear HO hat
      go_wp2_with fail
      go_ret
      exact ⟨ret_bool HR.out.symm, rfl⟩


set_option maxHeartbeats 1000000 in
theorem l1Rising_any (l : List Int) (lo hi : Int) (v : Value) (w : World) (hrow : RowV w v (I l)) :
    Calls Tryz.prog 138 #[v, .int .i64 lo, .int .i64 hi] w fun e w' => e = .returned (.bool (riseB lo hi l)) ∧ w = w' := by
  obtain ⟨a, cap, rfl, hc1, hc2, hat⟩ := hrow.ints
  clear hrow
  unfold maxLen at hc2
  go_enter Tryz.func138, Tryz.ntmps138
  go_wp2_with fail
  go_loop [11] (fun i => ∃ k : Nat, k ≤ l.length ∧ i = .int .i64 k ∧ Hid (Rise (l.take k) ∧ Within lo hi (l.take k))) (fun i => l.length - (intOf i).toNat)
  case atStart => exact ⟨0, Nat.zero_le _, rfl, by simp [Rise, Hid, Within]⟩
  case round =>
    obtain ⟨k, hk, rfl, HO⟩ := hrel
    by_cases hlt : k < l.length
    · obtain ⟨g, o, rfl, hg, hcell⟩ := hat k hlt
      by_cases hx : lo ≤ l[k] ∧ l[k] ≤ hi
      · have hx1 : (decide (lo ≤ l[k]) && decide (l[k] ≤ hi)) = true := by simp [hx]
        by_cases h0 : 0 < k
        · obtain ⟨g', o', hA, _, hcell0⟩ := hat (k - 1) (by omega)
          injection hA with hA
          injection hA with hA1 hA2
          subst hA1 hA2
          by_cases hy : l[k - 1] < l[k]
          · have HR : Hid (Rise (l.take (k + 1)) ∧ Within lo hi (l.take (k + 1))) := rise_next hlt HO.out hx.1 hx.2 (fun _ => hy)
            generalize l[k] = x at hcell hx hx1 hy
            generalize l[k - 1] = y at hcell0 hy
            clear hat HO hx
            have hk0 : decide ((k : Int) > 0) = true := by simp; omega
            have hy1 : decide (y ≥ x) = false := by simp; omega
            go_wp2_with (go_at_call 136; refine (l1In_any _ _ _ _).mono ?_; rintro e w' ⟨rfl, rfl⟩)
            all_goals
              go_round
              case rel => exact ⟨k + 1, by omega, by go_num, HR⟩
              case measure => simp [intOf]; omega
          · have HR : Hid (riseB lo hi l = false) := rise_fall hlt h0 (by omega)
            generalize l[k] = x at hcell hx hx1 hy
            generalize l[k - 1] = y at hcell0 hy
            clear hat HO hx
            have hk0 : decide ((k : Int) > 0) = true := by simp; omega
            have hy1 : decide (y ≥ x) = true := by simp; omega
            go_wp2_with (go_at_call 136; refine (l1In_any _ _ _ _).mono ?_; rintro e w' ⟨rfl, rfl⟩)
            all_goals
              go_ret
              exact ⟨ret_bool HR.out.symm, rfl⟩
        · have HR : Hid (Rise (l.take (k + 1)) ∧ Within lo hi (l.take (k + 1))) := rise_next hlt HO.out hx.1 hx.2 (fun h => absurd h h0)
          generalize l[k] = x at hcell hx hx1
          clear hat HO hx
          have hk0 : decide ((k : Int) > 0) = false := by simp; omega
          go_wp2_with (go_at_call 136; refine (l1In_any _ _ _ _).mono ?_; rintro e w' ⟨rfl, rfl⟩)
          all_goals
            go_round
            case rel => exact ⟨k + 1, by omega, by go_num, HR⟩
            case measure => simp [intOf]; omega
      · have HR : Hid (riseB lo hi l = false) := rise_out hlt (by omega)
        have hx1 : (decide (lo ≤ l[k]) && decide (l[k] ≤ hi)) = false := by
          rw [Bool.eq_false_iff]; intro h; rw [Bool.and_eq_true, decide_eq_true_iff, decide_eq_true_iff] at h; exact hx h
        generalize l[k] = x at hcell hx hx1
        clear hat HO hx
        go_wp2_with (go_at_call 136; refine (l1In_any _ _ _ _).mono ?_; rintro e w' ⟨rfl, rfl⟩)
        all_goals
          go_ret
          exact ⟨ret_bool HR.out.symm, rfl⟩
    · have HR : Hid (riseB lo hi l = true) := by have := HO.out; rw [List.take_of_length_le (by omega)] at this; exact riseB_iff.2 this
      clear HO hat
      go_wp2_with fail
      go_ret
      exact ⟨ret_bool HR.out.symm, rfl⟩

/-- All between two. -/
def allB (lo hi : Int) (l : List Int) : Bool := decide (∀ x ∈ l, lo ≤ x ∧ x ≤ hi)
set_option maxHeartbeats 1000000 in
theorem l1All_any (l : List Int) (lo hi : Int) (v : Value) (w : World) (hrow : RowV w v (I l)) :
    Calls Tryz.prog 137 #[v, .int .i64 lo, .int .i64 hi] w fun e w' => e = .returned (.bool (allB lo hi l)) ∧ w = w' := by
  obtain ⟨a, cap, rfl, hc1, hc2, hat⟩ := hrow.ints
  clear hrow
  unfold maxLen at hc2
  go_enter Tryz.func137, Tryz.ntmps137
  go_wp2_with fail
  go_loop [11] (fun i => ∃ k : Nat, k ≤ l.length ∧ i = .int .i64 k ∧ Hid (∀ x ∈ l.take k, lo ≤ x ∧ x ≤ hi)) (fun i => l.length - (intOf i).toNat)
  case atStart => exact ⟨0, Nat.zero_le _, rfl, by simp [Hid]⟩
  case round =>
    obtain ⟨k, hk, rfl, HO⟩ := hrel
    by_cases hlt : k < l.length
    · obtain ⟨g, o, rfl, hg, hcell⟩ := hat k hlt
      by_cases hx : lo ≤ l[k] ∧ l[k] ≤ hi
      · have hx1 : (decide (lo ≤ l[k]) && decide (l[k] ≤ hi)) = true := by simp [hx]
        have HR : Hid (∀ x ∈ l.take (k + 1), lo ≤ x ∧ x ≤ hi) := by
          intro x hxm
          rw [List.take_succ_eq_append_getElem hlt, List.mem_append, List.mem_singleton] at hxm
          rcases hxm with h | h
          · exact HO.out x h
          · rw [h]; exact hx
        generalize l[k] = x at hcell hx hx1
        clear hat HO hx
        go_wp2_with (go_at_call 136; refine (l1In_any _ _ _ _).mono ?_; rintro e w' ⟨rfl, rfl⟩)
        all_goals
          go_round
          case rel => exact ⟨k + 1, by omega, by go_num, HR⟩
          case measure => simp [intOf]; omega
      · have HR : Hid (allB lo hi l = false) := by
          rw [allB, decide_eq_false_iff_not]; exact fun h => hx (h _ (List.getElem_mem hlt))
        have hx1 : (decide (lo ≤ l[k]) && decide (l[k] ≤ hi)) = false := by
          rw [Bool.eq_false_iff]; intro h; rw [Bool.and_eq_true, decide_eq_true_iff, decide_eq_true_iff] at h; exact hx h
        generalize l[k] = x at hcell hx hx1
        clear hat HO hx
        go_wp2_with (go_at_call 136; refine (l1In_any _ _ _ _).mono ?_; rintro e w' ⟨rfl, rfl⟩)
        all_goals
          go_ret
          exact ⟨ret_bool HR.out.symm, rfl⟩
    · have HR : Hid (allB lo hi l = true) := by have := HO.out; rw [List.take_of_length_le (by omega)] at this; rw [allB, decide_eq_true_iff]; exact this
      clear HO hat
      go_wp2_with fail
      go_ret
      exact ⟨ret_bool HR.out.symm, rfl⟩

end Go.Proofs.YtcfhfhpdnjaokaaGreatDoor

/- Walks: the place of a number in a list; whether a graph is good, as the reference has it. -/
namespace Go.Proofs.YtcfhfhpdnjaokaaGreatDoor
open Go.RowKit Pth

theorem not_take {l : List Int} {n : Int} {k : Nat} (hk : k < l.length) (h : n ∉ l.take k) (hx : ¬ l[k] = n) : n ∉ l.take (k + 1) := by
  rw [List.take_succ_eq_append_getElem hk, List.mem_append, List.mem_singleton]
  rintro (h' | h')
  · exact h h'
  · exact hx h'.symm
theorem ret_int {a b : Int} (h : a = b) : Ending.returned (.int .i64 a) = .returned (.int .i64 b) := by rw [h]

set_option maxHeartbeats 1000000 in
theorem l5Place_any (l : List Int) (n : Int) (v : Value) (w : World) (hrow : RowV w v (I l)) :
    Calls Tryz.prog 139 #[v, .int .i64 n] w fun e w' => e = .returned (.int .i64 (placeI l n)) ∧ w = w' := by
  obtain ⟨a, cap, rfl, hc1, hc2, hat⟩ := hrow.ints
  clear hrow
  unfold maxLen at hc2
  go_enter Tryz.func139, Tryz.ntmps139
  go_wp2_with fail
  go_loop [9] (fun i => ∃ k : Nat, k ≤ l.length ∧ i = .int .i64 k ∧ Hid (n ∉ l.take k)) (fun i => l.length - (intOf i).toNat)
  case atStart => exact ⟨0, Nat.zero_le _, rfl, by simp [Hid]⟩
  case round =>
    obtain ⟨k, hk, rfl, HO⟩ := hrel
    by_cases hlt : k < l.length
    · obtain ⟨g, o, rfl, hg, hcell⟩ := hat k hlt
      clear hat
      by_cases hx : l[k] = n
      · have HR : Hid (placeI l n = k) := place_at hlt HO.out hx
        have hx1 : (l[k] == n) = true := by simp [hx]
        generalize l[k] = x at hcell hx hx1
        clear HO hx
        go_wp2_with fail
        go_ret
        exact ⟨ret_int HR.out.symm, rfl⟩
      · have HR : Hid (n ∉ l.take (k + 1)) := not_take hlt HO.out hx
        have hx1 : (l[k] == n) = false := by simp [hx]
        generalize l[k] = x at hcell hx hx1
        clear HO hx
        go_wp2_with fail
        go_round
        case rel => exact ⟨k + 1, by omega, by go_num, HR⟩
        case measure => simp [intOf]; omega
    · have HR : Hid (placeI l n = -1) := by have := HO.out; rw [List.take_of_length_le (by omega)] at this; exact place_none this
      clear HO hat
      go_wp2_with fail
      go_ret
      exact ⟨ret_int HR.out.symm, rfl⟩

/-- One task is as it should be. -/
def TaskOk (ls : List (List Int)) (l : List Int) (k : Nat) (hk : k < ls.length) : Prop := (Rise ls[k] ∧ Within 0 ((ls.length : Int) - 1) ls[k]) ∧ (k : Int) ∈ l ∧ ∀ x ∈ ls[k], placeI l x < placeI l k

set_option maxRecDepth 20000 in
set_option maxHeartbeats 4000000 in
theorem specGood_any (ls : List (List Int)) (l : List Int) (v : Value) (w : World) (hst : GraphV w v ls l) :
    Calls Tryz.prog 77 #[v] w fun e w' => e = .returned (.bool (goodG ls l)) ∧ Below w.heap.size w w' := by
  obtain ⟨nv, ov, rfl, h1, h2⟩ := hst
  have H1 := Lib.hid h1
  have H2 := Lib.hid h2
  obtain ⟨an, cn, rfl, hn1, hn2, hat⟩ := h1.lists
  obtain ⟨ao, co, rfl, ho1, ho2, _⟩ := h2.ints
  clear h1 h2
  unfold maxLen at hn2 ho2
  have nog : ∀ {P : Prop}, (GoodG ls l → P) → ¬ P → Hid (goodG ls l = false) := fun h1 h2 => goodG_no (fun h => h2 (h1 h))
  obtain ⟨wa, hwa⟩ : ∃ wa, wa = w.alloc (.cells #[.slice an ls.length cn, .slice ao l.length co] 26) := ⟨_, rfl⟩
  have c0 : wa.cell? ⟨w.heap.size, 0, none⟩ = some (.slice an ls.length cn) := by rw [hwa]; simp
  have c1 : wa.cell? ⟨w.heap.size, 1, none⟩ = some (.slice ao l.length co) := by rw [hwa]; simp
  have HA : Hid (Below w.heap.size w wa) := by rw [hwa]; exact (Below.refl w.heap.size w).alloc (Nat.le_refl _) _
  have HWA := Lib.hid hwa
  clear hwa
  have CI := l1In_any (ls.length : Int) 1 10 wa
  have CA := l1All_any l 0 ((ls.length : Int) - 1) _ wa (H2.out.below HA.out)
  by_cases h1 : 1 ≤ ls.length ∧ ls.length ≤ 10
  · have e1 : (decide ((1 : Int) ≤ (ls.length : Int)) && decide ((ls.length : Int) ≤ 10)) = true := by simp; omega
    rw [e1] at CI
    have HCI := Lib.hid CI
    clear CI e1
    by_cases h2 : l.length = ls.length
    · have e2 : ((l.length : Int) != (ls.length : Int)) = false := by simp [h2]
      have HL := Lib.hid h2
      by_cases h3 : ∀ x ∈ l, 0 ≤ x ∧ x ≤ (ls.length : Int) - 1
      · have e3 : allB 0 ((ls.length : Int) - 1) l = true := by rw [allB, decide_eq_true_iff]; exact h3
        rw [e3] at CA
        have HCA := Lib.hid CA
        have H3 := Lib.hid h3
        clear CA e3 h3 h2
        obtain ⟨h1a, h1b⟩ := h1
        go_enter Tryz.func77, Tryz.ntmps77
        go_wp2_with fail
        rw [← HWA.out]
        refine HCI.out.mono ?_
        rintro e w1 ⟨rfl, rfl⟩
        go_wp2_with fail
        refine HCA.out.mono ?_
        rintro e w1 ⟨rfl, rfl⟩
        go_wp2_with fail
        clear HCI HCA HWA e2
        have hsz : w.heap.size < wa.heap.size := by exact World.block_lt_of_cell? _ _ c0
        go_loopw [32] (fun i wr => ∃ k : Nat, k ≤ ls.length ∧ i = .int .i64 k ∧ Hid (∀ j (hj : j < ls.length), j < k → TaskOk ls l j hj) ∧ Below wa.heap.size wa wr) (fun i _ => ls.length - (intOf i).toNat)
        case atStart => exact ⟨0, Nat.zero_le _, rfl, fun j hj h => by omega, Below.refl _ _⟩
        case round =>
          obtain ⟨k, hk, rfl, HO, hb⟩ := hrel
          have HB := Lib.hid hb
          have HBW := Lib.hid (bth HA.out hb (Nat.le_refl _))
          have d0 := (hb.cell (p := ⟨w.heap.size, 0, none⟩) hsz).trans c0
          have d1 := (hb.cell (p := ⟨w.heap.size, 1, none⟩) hsz).trans c1
          have HC0 := Lib.hid c0
          have HC1 := Lib.hid c1
          clear hb c0 c1
          by_cases hlt : k < ls.length
          · obtain ⟨g, o, a2, c2, rfl, hg, hcell0, hrk⟩ := hat k hlt
            have hcell : wr.cell? ⟨g, o + k, none⟩ = some (.slice a2 ls[k].length c2) := by rw [HBW.out.cell (p := ⟨g, o + k, none⟩) hg]; exact hcell0
            have CR := l1Rising_any ls[k] 0 ((ls.length : Int) - 1) _ wr (hrk.below HBW.out)
            have CP := l5Place_any l (k : Int) _ wr (H2.out.below HBW.out)
            by_cases hr : Rise ls[k] ∧ Within 0 ((ls.length : Int) - 1) ls[k]
            · rw [riseB_iff.2 hr] at CR
              have HCR := Lib.hid CR
              clear CR
              by_cases hm : (k : Int) ∈ l
              · have hp0 : ¬ (placeI l k < 0) := by have := place_nonneg.2 hm; omega
                have HCP := Lib.hid CP
                have HRK := Lib.hid hrk
                have HM := Lib.hid hm
                have HRR := Lib.hid hr
                have hkl : ls[k].length ≤ c2 ∧ c2 ≤ maxLen := by obtain ⟨a3, c3, he, h1, h2, _⟩ := hrk.ints; injection he with _ _ he; omega
                obtain ⟨hkl1, hkl2⟩ := hkl
                obtain ⟨a3, c3, he3, _, _, hatk⟩ := hrk.ints
                injection he3 with he3 _ he4
                subst he3 he4
                unfold maxLen at hkl2
                clear CP hcell0 hm hr hat hrk
                generalize hpk : placeI l k = pk at hp0 HCP
                have HPK := Lib.hid hpk
                clear hpk
                go_wp2_with fail
                refine HCR.out.mono ?_
                rintro e w' ⟨rfl, rfl⟩
                go_wp2_with fail
                refine HCP.out.mono ?_
                rintro e w' ⟨rfl, rfl⟩
                go_wp2_with fail
                clear HCR HCP d0 d1 hcell
                go_loopw [51] (fun i wq => ∃ j : Nat, j ≤ ls[k].length ∧ i = .int .i64 j ∧ Hid (∀ x ∈ ls[k].take j, placeI l x < pk) ∧ Below wa.heap.size wa wq) (fun i _ => ls[k].length - (intOf i).toNat)
                case atStart => exact ⟨0, Nat.zero_le _, rfl, by simp [Hid], HB.out⟩
                case round =>
                  clear HB HBW
                  obtain ⟨j, hj, rfl, HJ, hb⟩ := hrel
                  have HB := Lib.hid hb
                  have HBW := Lib.hid (bth HA.out hb (Nat.le_refl _))
                  have d1 := (hb.cell (p := ⟨w.heap.size, 1, none⟩) hsz).trans HC1.out
                  have HP := Lib.hid (fun (q : Nat) (x : Int) => (l5Place_any l x _ (wr.drewN q) (H2.out.below (below_drewN HBW.out q))).mono (fun e w' ⟨h1, h2⟩ => And.intro h1 h2.symm))
                  clear hb
                  by_cases hjt : j < ls[k].length
                  · obtain ⟨g2, o2, rfl, hg2, hcell0⟩ := hatk j hjt
                    have hcell : wr.cell? ⟨g2, o2 + j, none⟩ = some (.int .i64 ls[k][j]) := by rw [HBW.out.cell (p := ⟨g2, o2 + j, none⟩) hg2]; exact hcell0
                    clear hcell0 hatk
                    by_cases hx : placeI l ls[k][j] < pk
                    · have hx1 : decide (placeI l ls[k][j] ≥ pk) = false := by simp; omega
                      have HJ2 : Hid (∀ x ∈ ls[k].take (j + 1), placeI l x < pk) := by
                        intro x hxm
                        rw [List.take_succ_eq_append_getElem hjt, List.mem_append, List.mem_singleton] at hxm
                        rcases hxm with h | h
                        · exact HJ.out x h
                        · rw [h]; exact hx
                      clear HJ hx
                      rw [← HPK.out] at hx1
                      generalize ls[k][j] = x at hcell hx1
                      go_wp2_with fail
                      go_quiet ((go_at_call 139; exact Calls.quiet_of_same (HP.out _ _)))
                      go_wp2_with fail
                      go_roundw
                      case rel => exact ⟨j + 1, by omega, by go_num, HJ2, below_drewN HB.out _⟩
                      case measure => simp [intOf]; omega
                    · have HR := nog (fun h => (h.each k hlt).2.2 _ (List.getElem_mem hjt)) (by rw [HPK.out]; exact hx)
                      have hx1 : decide (placeI l ls[k][j] ≥ pk) = true := by simp; omega
                      clear HJ hx
                      rw [← HPK.out] at hx1
                      generalize ls[k][j] = x at hcell hx1
                      go_wp2_with fail
                      go_quiet ((go_at_call 139; exact Calls.quiet_of_same (HP.out _ _)))
                      go_wp2_with fail
                      go_ret
                      exact ⟨ret_bool HR.out.symm, below_drewN HBW.out _⟩
                  · have HT : Hid (∀ i (hi : i < ls.length), i < k + 1 → TaskOk ls l i hi) := by
                      intro i hi hik
                      rcases Nat.lt_or_ge i k with h | h
                      · exact HO.out i hi h
                      · obtain rfl : i = k := by omega
                        refine ⟨HRR.out, HM.out, fun x hx => ?_⟩
                        rw [HPK.out]
                        have := HJ.out
                        rw [List.take_of_length_le (by omega)] at this
                        exact this x hx
                    clear HJ HO HP hatk
                    go_wp2_with fail
                    go_roundw
                    case rel => exact ⟨k + 1, by omega, by go_num, HT, HB.out⟩
                    case measure => simp [intOf]; omega
              · have hp0 : placeI l k < 0 := by rw [place_none hm]; omega
                have HCP := Lib.hid CP
                have HR := nog (fun h => (h.each k hlt).2.1) hm
                clear CP hcell0 hm hr hat nog hrk
                generalize placeI l k = pk at hp0 HCP
                go_wp2_with fail
                refine HCR.out.mono ?_
                rintro e w' ⟨rfl, rfl⟩
                go_wp2_with fail
                refine HCP.out.mono ?_
                rintro e w' ⟨rfl, rfl⟩
                go_wp2_with fail
                all_goals
                  go_ret
                  exact ⟨ret_bool HR.out.symm, HBW.out⟩
            · rw [riseB_false hr] at CR
              have HCR := Lib.hid CR
              have HR := nog (fun h => (h.each k hlt).1) hr
              clear CR CP hcell0 hr hat nog hrk
              go_wp2_with fail
              refine HCR.out.mono ?_
              rintro e w' ⟨rfl, rfl⟩
              go_wp2_with fail
              all_goals
                go_ret
                exact ⟨ret_bool HR.out.symm, HBW.out⟩
          · have HR : Hid (goodG ls l = true) := goodG_iff.2 ⟨h1a, h1b, HL.out, H3.out, fun j hj => HO.out j hj (by omega)⟩
            clear HO hat nog
            go_wp2_with fail
            go_ret
            exact ⟨ret_bool HR.out.symm, HBW.out⟩
      · have e3 : allB 0 ((ls.length : Int) - 1) l = false := by rw [allB, decide_eq_false_iff_not]; exact h3
        have HR := nog (fun h => h.tasks) h3
        rw [e3] at CA
        have HCA := Lib.hid CA
        clear CA e3 h3 h2 nog hat
        obtain ⟨h1a, h1b⟩ := h1
        go_enter Tryz.func77, Tryz.ntmps77
        go_wp2_with fail
        rw [← HWA.out]
        refine HCI.out.mono ?_
        rintro e w1 ⟨rfl, rfl⟩
        go_wp2_with fail
        refine HCA.out.mono ?_
        rintro e w1 ⟨rfl, rfl⟩
        go_wp2_with fail
        go_ret
        exact ⟨ret_bool HR.out.symm, HA.out⟩
    · have e2 : ((l.length : Int) != (ls.length : Int)) = true := by simp; omega
      have HR := nog (fun h => h.same) h2
      clear h2 nog CA hat
      obtain ⟨h1a, h1b⟩ := h1
      go_enter Tryz.func77, Tryz.ntmps77
      go_wp2_with fail
      rw [← HWA.out]
      refine HCI.out.mono ?_
      rintro e w1 ⟨rfl, rfl⟩
      go_wp2_with fail
      go_ret
      exact ⟨ret_bool HR.out.symm, HA.out⟩
  · have e1 : (decide ((1 : Int) ≤ (ls.length : Int)) && decide ((ls.length : Int) ≤ 10)) = false := by
      rw [Bool.eq_false_iff]; intro h; rw [Bool.and_eq_true, decide_eq_true_iff, decide_eq_true_iff] at h; omega
    have HR := nog (fun h => And.intro h.low h.high) h1
    rw [e1] at CI
    have HCI := Lib.hid CI
    clear CI e1 h1 nog CA hat
    go_enter Tryz.func77, Tryz.ntmps77
    go_wp2_with fail
    rw [← HWA.out]
    refine HCI.out.mono ?_
    rintro e w1 ⟨rfl, rfl⟩
    go_wp2_with fail
    go_ret
    exact ⟨ret_bool HR.out.symm, HA.out⟩
end Go.Proofs.YtcfhfhpdnjaokaaGreatDoor

/- Walks: whether a graph is good, as the program has it. -/
namespace Go.Proofs.YtcfhfhpdnjaokaaGreatDoor
open Go.RowKit Pth

/-- Yes-or-no as cells. -/
def Bo (l : List Bool) : List Value := l.map fun x => .bool x
theorem Bo_len (l : List Bool) : (Bo l).length = l.length := by simp [Bo]
theorem Bo_get {l : List Bool} {k : Nat} (hk : k < l.length) : (Bo l)[k]'(by rw [Bo_len]; exact hk) = .bool l[k] := by simp [Bo]
theorem Bo_get? {l : List Bool} {k : Nat} (hk : k < l.length) : (Bo l)[k]? = some (.bool l[k]) := by simp [Bo, hk]
theorem Bo_set (l : List Bool) (k : Nat) (b : Bool) : (Bo l).set k (.bool b) = Bo (l.set k b) := by simp [Bo, List.map_set]
theorem Bo_rep (n : Nat) (b : Bool) : Bo (List.replicate n b) = List.replicate n (.bool b) := by simp [Bo]
theorem RowV.bools {w : World} {v : Value} {l : List Bool} (h : RowV w v (Bo l)) :
    ∃ a c, v = .slice a l.length c ∧ l.length ≤ c ∧ c ≤ maxLen ∧ ∀ k (hk : k < l.length), ∃ g o, a = some ⟨g, o, none⟩ ∧ g < w.heap.size ∧ w.cell? ⟨g, o + k, none⟩ = some (.bool l[k]) := by
  obtain ⟨a, c, hv, h1, h2, hat⟩ := h
  refine ⟨a, c, by rw [hv, Bo_len], by rw [Bo_len] at h1; exact h1, h2, fun k hk => ?_⟩
  obtain ⟨g, o, ha, hg, hc⟩ := hat k (by rw [Bo_len]; exact hk)
  exact ⟨g, o, ha, hg, by rw [hc]; simp [Bo]⟩

theorem RowV.marks {w : World} {v : Value} {n : Nat} {pre : List Int} (h : RowV w v (Bo (marksIn n pre))) :
    ∃ a c, v = .slice a n c ∧ n ≤ c ∧ c ≤ maxLen ∧ ∀ k (_ : k < n), ∃ g o, a = some ⟨g, o, none⟩ ∧ g < w.heap.size ∧ w.cell? ⟨g, o + k, none⟩ = some (.bool (decide ((k : Int) ∈ pre))) := by
  obtain ⟨a, c, hv, h1, h2, hat⟩ := h.bools
  have hl := marksIn_len n pre
  refine ⟨a, c, by rw [hv, hl], by omega, h2, fun k hk => ?_⟩
  obtain ⟨g, o, ha, hg, hc⟩ := hat k (by omega)
  exact ⟨g, o, ha, hg, by rw [hc, marksIn_at]⟩

set_option maxRecDepth 20000 in
set_option maxHeartbeats 2000000 in
theorem areNeeds_any (l pre : List Int) (n : Nat) (v u : Value) (w : World) (hrow : RowV w v (I l)) (hpl : RowV w u (Bo (marksIn n pre))) (hpre : ∀ x ∈ pre, 0 ≤ x ∧ x < n) :
    Calls Tryz.prog 134 #[v, u] w fun e w' => e = .returned (.bool (needsB l pre)) ∧ w = w' := by
  obtain ⟨a, cap, rfl, hc1, hc2, hat⟩ := hrow.ints
  obtain ⟨a2, cap2, rfl, hd1, hd2, hat2⟩ := hpl.marks
  clear hrow hpl
  unfold maxLen at hc2 hd2
  go_enter Tryz.func134, Tryz.ntmps134
  go_wp2_with fail
  go_loop [9] (fun i => ∃ k : Nat, k ≤ l.length ∧ i = .int .i64 k ∧ Hid (Rise (l.take k) ∧ ∀ x ∈ l.take k, x ∈ pre)) (fun i => l.length - (intOf i).toNat)
  case atStart => exact ⟨0, Nat.zero_le _, rfl, by simp [Hid, Rise]⟩
  case round =>
    obtain ⟨k, hk, rfl, HO⟩ := hrel
    by_cases hlt : k < l.length
    · obtain ⟨g, o, rfl, hg, hcell⟩ := hat k hlt
      by_cases hx : l[k] ∈ pre
      · obtain ⟨hx0, hxn⟩ := hpre _ hx
        obtain ⟨g2, o2, rfl, hg2, hcell2⟩ := hat2 l[k].toNat (by omega)
        rw [show ((l[k].toNat : Nat) : Int) = l[k] by omega, decide_eq_true hx] at hcell2
        by_cases h0 : 0 < k
        · obtain ⟨g', o', hA, _, hcell1⟩ := hat (k - 1) (by omega)
          obtain ⟨rfl, rfl⟩ := addr_inj hA
          have hk0 : decide ((k : Int) > 0) = true := by simp; omega
          by_cases hy : l[k - 1] < l[k]
          · have HR := Lib.hid (needs_next hlt HO.out hx (fun _ => hy))
            have hy1 : decide (l[k - 1] ≥ l[k]) = false := by simp; omega
            clear hat hat2 HO hx hpre hA
            generalize l[k] = x at *
            generalize l[k - 1] = y at *
            go_wp2_with fail
            go_round
            case rel => exact ⟨k + 1, by omega, by go_num, HR⟩
            case measure => simp [intOf]; omega
          · have HR : Hid (needsB l pre = false) := needs_fall hlt h0 (by omega)
            have hy1 : decide (l[k - 1] ≥ l[k]) = true := by simp; omega
            clear hat hat2 HO hx hpre hA
            generalize l[k] = x at *
            generalize l[k - 1] = y at *
            go_wp2_with fail
            go_ret
            exact ⟨ret_bool HR.out.symm, rfl⟩
        · have HR := Lib.hid (needs_next hlt HO.out hx (fun h => absurd h h0))
          have hk0 : decide ((k : Int) > 0) = false := by simp; omega
          clear hat hat2 HO hx hpre
          generalize l[k] = x at *
          go_wp2_with fail
          go_round
          case rel => exact ⟨k + 1, by omega, by go_num, HR⟩
          case measure => simp [intOf]; omega
      · have HR : Hid (needsB l pre = false) := needs_not hlt hx
        by_cases hx0 : l[k] < 0
        · clear hat hat2 HO hx hpre
          generalize l[k] = x at *
          go_wp2_with fail
          go_ret
          exact ⟨ret_bool HR.out.symm, rfl⟩
        · by_cases hxn : l[k] < n
          · obtain ⟨g2, o2, rfl, hg2, hcell2⟩ := hat2 l[k].toNat (by omega)
            rw [show ((l[k].toNat : Nat) : Int) = l[k] by omega, decide_eq_false hx] at hcell2
            clear hat hat2 HO hx hpre
            generalize l[k] = x at *
            go_wp2_with fail
            go_ret
            exact ⟨ret_bool HR.out.symm, rfl⟩
          · clear hat hat2 HO hx hpre
            generalize l[k] = x at *
            go_wp2_with fail
            go_ret
            exact ⟨ret_bool HR.out.symm, rfl⟩
    · have HR : Hid (needsB l pre = true) := by have := HO.out; rw [List.take_of_length_le (by omega)] at this; exact needsB_iff.2 this
      clear HO hat hat2 hpre
      go_wp2_with fail
      go_ret
      exact ⟨ret_bool HR.out.symm, rfl⟩

set_option maxHeartbeats 1000000 in
theorem isTask_any (ls : List (List Int)) (l : List Int) (k : Int) (v : Value) (w : World) (hst : GraphV w v ls l) :
    Calls Tryz.prog 81 #[v, .int .i64 k] w fun e w' => e = .returned (.bool (decide (0 ≤ k) && decide (k < (ls.length : Int)))) ∧ Below w.heap.size w w' := by
  obtain ⟨nv, ov, rfl, h1, h2⟩ := hst
  obtain ⟨an, cn, rfl, hn1, hn2, _⟩ := h1.lists
  obtain ⟨ao, co, rfl, ho1, ho2, _⟩ := h2.ints
  clear h1 h2
  unfold maxLen at hn2 ho2
  go_enter Tryz.func81, Tryz.ntmps81
  go_wp2_with fail
  all_goals
    go_ret
    exact ⟨ret_bool (by rw [Bool.eq_iff_iff]; simp <;> omega), (Below.refl w.heap.size w).alloc (Nat.le_refl _) _⟩

/-- What the program asks of the one at a place. -/
def SpotOk (ls : List (List Int)) (l : List Int) (i : Nat) (hi : i < l.length) : Prop := ∃ t : Nat, ∃ ht : t < ls.length, l[i] = (t : Int) ∧ l[i] ∉ l.take i ∧ Rise ls[t] ∧ ∀ x ∈ ls[t], x ∈ l.take i
theorem spot_range {ls : List (List Int)} {l : List Int} {k : Nat} (h : ∀ i (hi : i < l.length), i < k → SpotOk ls l i hi) : ∀ x ∈ l.take k, 0 ≤ x ∧ x < (ls.length : Int) := by
  intro x hx
  obtain ⟨i, hi, rfl⟩ := List.mem_iff_getElem.1 hx
  rw [List.length_take] at hi
  obtain ⟨t, ht, he, _⟩ := h i (by omega) (by omega)
  rw [List.getElem_take]
  omega
theorem isTask_b {ls : List (List Int)} {l : List Int} {k : Int} {v : Value} {w : World} {b : Bool} (hst : GraphV w v ls l) (h : (decide (0 ≤ k) && decide (k < (ls.length : Int))) = b) :
    Calls Tryz.prog 81 #[v, .int .i64 k] w fun e w' => e = .returned (.bool b) ∧ Below w.heap.size w w' := by
  subst h
  exact isTask_any ls l k v w hst
theorem take_snoc {l : List Int} {k : Nat} (hk : k < l.length) : l.take k ++ [l[k]] = l.take (k + 1) := (List.take_succ_eq_append_getElem hk).symm

set_option maxRecDepth 20000 in
set_option maxHeartbeats 4000000 in
theorem implGood_any (ls : List (List Int)) (l : List Int) (v : Value) (w : World) (hst : GraphV w v ls l) :
    Calls Tryz.prog 75 #[v] w fun e w' => e = .returned (.bool (goodG ls l)) ∧ Below w.heap.size w w' := by
  have HV := Lib.hid hst
  obtain ⟨nv, ov, rfl, h1, h2⟩ := hst
  obtain ⟨an, cn, rfl, hn1, hn2, hat⟩ := h1.lists
  obtain ⟨ao, co, rfl, ho1, ho2, hao⟩ := h2.ints
  clear h1 h2
  unfold maxLen at hn2 ho2
  have nog : ∀ {P : Prop}, (GoodP ls l → P) → ¬ P → Hid (goodG ls l = false) := fun h1 h2 => goodG_noP (fun h => h2 (h1 h))
  obtain ⟨wa, hwa⟩ : ∃ wa, wa = w.alloc (.cells #[.slice an ls.length cn, .slice ao l.length co] 26) := ⟨_, rfl⟩
  have c0 : wa.cell? ⟨w.heap.size, 0, none⟩ = some (.slice an ls.length cn) := by rw [hwa]; simp
  have c1 : wa.cell? ⟨w.heap.size, 1, none⟩ = some (.slice ao l.length co) := by rw [hwa]; simp
  have HA : Hid (Below w.heap.size w wa) := by rw [hwa]; exact (Below.refl w.heap.size w).alloc (Nat.le_refl _) _
  have hsz : w.heap.size < wa.heap.size := by rw [hwa]; simp
  have HWA := Lib.hid hwa
  by_cases h1 : 1 ≤ ls.length ∧ ls.length ≤ 10
  · by_cases h2 : l.length = ls.length
    · have e2 : ((l.length : Int) != (ls.length : Int)) = false := by simp [h2]
      have HL := Lib.hid h2
      obtain ⟨h1a, h1b⟩ := h1
      obtain ⟨w0, hmk, hown0, hb0⟩ := make_row elemB rfl ls.length wa (by omega)
      have HN0 := Lib.hid hown0
      have HB0 := Lib.hid hb0
      rw [hwa] at hmk
      have hwz : wa.heap.size = w.heap.size + 1 := by rw [hwa]; simp
      rw [hwz] at HN0
      have d0 := (HB0.out.cell (p := ⟨w.heap.size, 0, none⟩) hsz).trans c0
      have d1 := (HB0.out.cell (p := ⟨w.heap.size, 1, none⟩) hsz).trans c1
      clear hown0 hb0 h2 hwa
      go_enter Tryz.func75, Tryz.ntmps75
      go_wp2_with fail
      clear hmk e2 d0 d1
      go_loopw [28] (fun i wr => ∃ k : Nat, k ≤ l.length ∧ i = .int .i64 k ∧ Hid (∀ i (hi : i < l.length), i < k → SpotOk ls l i hi) ∧ wr.ownsRow (w.heap.size + 1) 4 1 (.slice (some ⟨w.heap.size + 1, 0, none⟩) ls.length ls.length) ls.length (Bo (marksIn ls.length (l.take k))) ∧ Below wa.heap.size wa wr) (fun i _ => l.length - (intOf i).toNat)
      case atStart => exact ⟨0, Nat.zero_le _, rfl, fun i hi h => by omega, by rw [List.take_zero, marksIn_nil, Bo_rep]; exact HN0.out, HB0.out⟩
      case round =>
        clear HN0 HB0
        obtain ⟨k, hk, rfl, HO, hown, hb⟩ := hrel
        have HN := Lib.hid hown
        have HB := Lib.hid hb
        have HBW := Lib.hid (bth HA.out hb (Nat.le_refl _))
        have d0 := (hb.cell (p := ⟨w.heap.size, 0, none⟩) hsz).trans c0
        have d1 := (hb.cell (p := ⟨w.heap.size, 1, none⟩) hsz).trans c1
        have HC0 := Lib.hid c0
        have HC1 := Lib.hid c1
        have hszr := hb.size
        clear hb c0 c1 hown
        by_cases hlt : k < l.length
        · obtain ⟨g, o, rfl, hg, hcell0⟩ := hao k hlt
          have hcell : wr.cell? ⟨g, o + k, none⟩ = some (.int .i64 l[k]) := by rw [HBW.out.cell (p := ⟨g, o + k, none⟩) hg]; exact hcell0
          clear hcell0
          by_cases hr : 0 ≤ l[k] ∧ l[k] < (ls.length : Int)
          · have CT := Lib.hid (isTask_b (HV.out.below HBW.out) (show (decide (0 ≤ l[k]) && decide (l[k] < (ls.length : Int))) = true by simp [hr]))
            obtain ⟨t, ht⟩ : ∃ t : Nat, l[k] = t := ⟨l[k].toNat, by omega⟩
            have htn : t < ls.length := by omega
            have HTL := Lib.hid ht
            have HPRE := Lib.hid (spot_range HO.out)
            have HTS := Lib.hid (take_snoc hlt)
            have HSO : Hid (∀ (h1 : (t : Int) ∉ l.take k) (h2 : Rise ls[t]) (h3 : ∀ x ∈ ls[t], x ∈ l.take k), ∀ i (hi : i < l.length), i < k + 1 → SpotOk ls l i hi) := by
              intro h1 h2 h3 i hi hik
              rcases Nat.lt_or_ge i k with h | h
              · exact HO.out i hi h
              · obtain rfl : i = k := by omega
                exact ⟨t, htn, ht, by rw [ht]; exact h1, h2, h3⟩
            have hnog1 : (t : Int) ∈ l.take k → Hid (goodG ls l = false) := fun hm => nog (fun h => (h.each k hlt)) (fun ⟨t', ht', he, hn, _⟩ => hn (by rw [ht]; exact hm))
            have hnog2 : ¬ (Rise ls[t] ∧ ∀ x ∈ ls[t], x ∈ l.take k) → Hid (goodG ls l = false) := fun hm => nog (fun h => (h.each k hlt)) (fun ⟨t', ht', he, hn, h3, h4⟩ => hm (by
              obtain rfl : t = t' := by omega
              exact ⟨h3, h4⟩))
            rw [ht] at hcell CT HTS
            clear ht nog hao HTL
            go_wp2_with fail
            refine CT.out.mono ?_
            rintro e w1 ⟨rfl, hb1⟩
            have hN1 := own_below HN.out hb1
            have HN1 := Lib.hid hN1
            have HB1 := Lib.hid (bth HB.out hb1 (Nat.le_refl _))
            have HBW1 := Lib.hid (bth HBW.out hb1 (Nat.le_refl _))
            have hcp : w1.cell? ⟨w.heap.size + 1, t, none⟩ = some (.bool (decide ((t : Int) ∈ l.take k))) := by rw [hN1.cellAt t (by omega), Bo_get? (by rw [marksIn_len]; exact htn), marksIn_at]
            have f0 := (hb1.cell (p := ⟨w.heap.size, 0, none⟩) (by show w.heap.size < wr.heap.size; omega)).trans d0
            clear d0 d1 hcell hb1 HN CT HO
            by_cases hm : (t : Int) ∈ l.take k
            · have HR := hnog1 hm
              rw [decide_eq_true hm] at hcp
              clear hnog1 hnog2 hm hat HSO HTS hN1
              go_wp2_with fail
              go_ret
              exact ⟨ret_bool HR.out.symm, HBW1.out⟩
            · obtain ⟨g2, o2, a2, c2, rfl, hg2, hcell2, hrk⟩ := hat t htn
              have hcell3 : w1.cell? ⟨g2, o2 + t, none⟩ = some (.slice a2 ls[t].length c2) := by rw [HBW1.out.cell (p := ⟨g2, o2 + t, none⟩) hg2]; exact hcell2
              have CN := areNeeds_any ls[t] (l.take k) ls.length _ _ w1 (hrk.below HBW1.out) (RowV.of_own hN1) HPRE.out
              rw [decide_eq_false hm] at hcp
              by_cases hq : Rise ls[t] ∧ ∀ x ∈ ls[t], x ∈ l.take k
              · rw [needsB_iff.2 hq] at CN
                have HCN := Lib.hid CN
                have HS1 := Lib.hid (HSO.out hm hq.1 hq.2)
                have hfz := hN1.frozenAt t
                have hst := hN1.stored t (.bool true)
                rw [Bo_set, marksIn_set, HTS.out] at hst
                have HN2 := Lib.hid hst.1
                have HB2 := Lib.hid (HB1.out.trans (only_below hst.2 (by omega) (by have := HB1.out.size; omega)))
                clear hnog1 hnog2 hm hat HSO HTS hN1 CN hcell2 hrk hst hq HN1
                generalize ls[t].length = n2 at *
                go_wp2_with fail
                refine HCN.out.mono ?_
                rintro e w' ⟨rfl, rfl⟩
                go_wp2_with fail
                go_roundw
                case rel => exact ⟨k + 1, by omega, by go_num, HS1, HN2.out, HB2.out⟩
                case measure => simp [intOf]; omega
              · rw [needsB_no hq] at CN
                have HCN := Lib.hid CN
                have HR := hnog2 hq
                clear hnog1 hnog2 hm hat HSO HTS hN1 CN hcell2 hrk hq HN1
                generalize ls[t].length = n2 at *
                go_wp2_with fail
                refine HCN.out.mono ?_
                rintro e w' ⟨rfl, rfl⟩
                go_wp2_with fail
                go_ret
                exact ⟨ret_bool HR.out.symm, HBW1.out⟩
          · have CT := Lib.hid (isTask_b (HV.out.below HBW.out) (show (decide (0 ≤ l[k]) && decide (l[k] < (ls.length : Int))) = false by rw [Bool.eq_false_iff]; intro h; rw [Bool.and_eq_true, decide_eq_true_iff, decide_eq_true_iff] at h; exact hr h))
            have HR := nog (fun h => h.each k hlt) (fun ⟨t, ht, he, _⟩ => hr (by omega))
            clear nog hao hat HO hr HN
            generalize l[k] = x at *
            go_wp2_with fail
            refine CT.out.mono ?_
            rintro e w1 ⟨rfl, hb1⟩
            have HB1 := Lib.hid (bth HBW.out hb1 (Nat.le_refl _))
            clear hb1
            go_wp2_with fail
            go_ret
            exact ⟨ret_bool HR.out.symm, HB1.out⟩
        · have HR : Hid (goodG ls l = true) := goodG_iff.2 (GoodP.toG ⟨h1a, h1b, HL.out, fun i hi => HO.out i hi (by omega)⟩)
          clear HO hat hao nog HN
          go_wp2_with fail
          go_ret
          exact ⟨ret_bool HR.out.symm, HBW.out⟩
    · have e2 : ((l.length : Int) != (ls.length : Int)) = true := by simp; omega
      have HR := nog (fun h => h.same) h2
      obtain ⟨h1a, h1b⟩ := h1
      clear h2 nog hat hao c0 c1 hwa hsz
      go_enter Tryz.func75, Tryz.ntmps75
      go_wp2_with fail
      rw [← HWA.out]
      go_ret
      exact ⟨ret_bool HR.out.symm, HA.out⟩
  · have HR := nog (fun h => And.intro h.low h.high) h1
    clear nog hat hao c0 c1 hwa hsz
    by_cases h3 : ls.length < 1
    · go_enter Tryz.func75, Tryz.ntmps75
      go_wp2_with fail
      rw [← HWA.out]
      go_ret
      exact ⟨ret_bool HR.out.symm, HA.out⟩
    · have h4 : 10 < ls.length := by omega
      clear h1
      go_enter Tryz.func75, Tryz.ntmps75
      go_wp2_with fail
      rw [← HWA.out]
      go_ret
      exact ⟨ret_bool HR.out.symm, HA.out⟩
end Go.Proofs.YtcfhfhpdnjaokaaGreatDoor
