/- Texts of one claim, joined in their order. -/
import Derived.Test.YtnkkbleebfijgaaM4
import Derived.Test.YtnkkbleebfijgaaM5

/- Walks: results that are good, and those that failed, of the reference and of the program. -/
namespace Go.Proofs.Ytnkkbleebfijgaa
open Go.RowKit Pth

theorem bthR {B : Nat} {w w1 w2 : World} (h : Below B w w1) (k : Below w1.heap.size w1 w2) (hB : B ≤ w.heap.size := by exact Nat.le_refl _) : Below B w w2 := h.trans (k.mono (Nat.le_trans hB h.size))
/-- Whether a result is one. -/
def resOk (r : ResT) : Bool := decide (0 ≤ r.2) && decide (r.2 ≤ 2) && decide (r.1.length ≤ 40) && (decide (r.2 = 0) || decide (r.1 = []))
def resA (l : List ResT) : Bool := decide (l.length ≤ 10) && l.all resOk
/-- Those of the first k that failed. -/
def failK (l : List ResT) (k : Nat) : List Int := ((List.range k).filter (fun j => decide ((l.getD j noRes).2 = 1))).map Int.ofNat
def failA (l : List ResT) : List Int := if resA l then failK l l.length else []
theorem failK_len (l : List ResT) (k : Nat) : (failK l k).length ≤ k := by
  unfold failK
  rw [List.length_map]
  exact Nat.le_trans (List.length_filter_le _ _) (by simp)
theorem failK_yes {l : List ResT} {k : Nat} (hk : k < l.length) (h : l[k].2 = 1) : failK l (k + 1) = failK l k ++ [(k : Int)] := by
  unfold failK
  rw [List.range_succ, List.filter_append, List.map_append]
  have : (l[k]?.getD noRes).2 = 1 := by rw [List.getElem?_eq_getElem hk]; exact h
  simp [List.filter_cons, this]
theorem failK_no {l : List ResT} {k : Nat} (hk : k < l.length) (h : l[k].2 ≠ 1) : failK l (k + 1) = failK l k := by
  unfold failK
  rw [List.range_succ, List.filter_append, List.map_append]
  have : ¬ (l[k]?.getD noRes).2 = 1 := by rw [List.getElem?_eq_getElem hk]; exact h
  simp [List.filter_cons, this]
theorem res_bad {l : List ResT} {k : Nat} (hk : k < l.length) (h : resOk l[k] = false) : resA l = false := by
  unfold resA
  rw [show l.all resOk = false from List.all_eq_false.2 ⟨l[k], List.getElem_mem hk, by simp [h]⟩, Bool.and_false]
theorem res_next {l : List ResT} {k : Nat} (hk : k < l.length) (ha : (l.take k).all resOk = true) (h : resOk l[k] = true) : (l.take (k + 1)).all resOk = true := by
  rw [List.take_succ_eq_append_getElem hk, List.all_append, ha]; simp [h]
theorem res_end {l : List ResT} {k : Nat} (hk : l.length ≤ k) (ha : (l.take k).all resOk = true) : resA l = decide (l.length ≤ 10) := by
  rw [List.take_of_length_le hk] at ha
  unfold resA; rw [ha, Bool.and_true]
theorem resA_small {l : List ResT} (h : resA l = true) : l.length ≤ 10 ∧ ∀ r ∈ l, r.1.length ≤ 40 := by
  unfold resA at h
  simp only [Bool.and_eq_true, decide_eq_true_eq, List.all_eq_true] at h
  refine ⟨h.1, fun r hr => ?_⟩
  have := h.2 r hr
  simp only [resOk, Bool.and_eq_true, decide_eq_true_eq] at this
  exact this.1.2

set_option maxRecDepth 20000 in
set_option maxHeartbeats 2000000 in
theorem specResults_any (l : List ResT) (v : Value) (w : World) (hrow : RowR w v l) (hx : ∀ f ∈ l, f.1.length ≤ maxLen) :
    Calls Try.prog 74 #[v] w (BoolPost (resA l) w) := by
  obtain ⟨a, cap, rfl, hc1, hc2, hat⟩ := hrow.res
  clear hrow
  unfold maxLen at hc2 hx
  go_enter Try.func74, Try.ntmps74
  go_wp2_with fail
  go_loopw [7] (fun i wr => ∃ k : Nat, k ≤ l.length ∧ i = .int .i64 k ∧ Hid (Below w.heap.size w wr) ∧ Hid ((l.take k).all resOk = true)) (fun i _ => l.length - (intOf i).toNat)
  case atStart => exact ⟨0, Nat.zero_le _, rfl, Below.refl _ _, by simp [Hid]⟩
  case round =>
    obtain ⟨k, hk, rfl, HB, HO⟩ := hrel
    have hbs := HB.out.size
    by_cases hlt : k < l.length
    · obtain ⟨g, o, rfl, hg, hcell1, hcell2⟩ := hat k hlt
      have s1 := (HB.out.cell (p := ⟨g, o + k * 2, none⟩) hg).trans hcell1
      have s2 := (HB.out.cell (p := ⟨g, o + k * 2 + 1, none⟩) hg).trans hcell2
      have HBA := Lib.hid (HB.out.alloc hbs (.cells #[.string ⟨l[k].1.toArray⟩, .int .i64 l[k].2] 96))
      have hxl := hx l[k] (List.getElem_mem hlt)
      obtain ⟨b1, hb1⟩ : ∃ b, (decide (0 ≤ l[k].2) && decide (l[k].2 ≤ 2)) = b := ⟨_, rfl⟩
      obtain ⟨b2, hb2⟩ : ∃ b, decide (l[k].1.length ≤ 40) = b := ⟨_, rfl⟩
      obtain ⟨b3, hb3⟩ : ∃ b, decide (l[k].2 = 0) = b := ⟨_, rfl⟩
      obtain ⟨b4, hb4⟩ : ∃ b, decide (l[k].1 = []) = b := ⟨_, rfl⟩
      have HC := Lib.hid (fun W => in_l hb1 W)
      have HS : Hid (if (b1 && b2 && (b3 || b4)) then (l.take (k + 1)).all resOk = true else resA l = false) := by
        unfold Hid
        have hR : resOk l[k] = (b1 && b2 && (b3 || b4)) := by unfold resOk; rw [hb1, hb2, hb3, hb4]
        split
        · rename_i h; exact res_next hlt HO.out (by rw [hR, h])
        · rename_i h; exact res_bad hlt (by rw [hR]; simpa using h)
      have e2 : decide ((l[k].1.length : Int) > 40) = !b2 := by rw [← hb2, Bool.eq_iff_iff]; simp <;> omega
      have e3 : (l[k].2 != 0) = !b3 := by rw [← hb3]; rfl
      have e4 := nil_b hb4
      clear hcell1 hcell2 hat HO hx hb1 hb2 hb3 hb4
      generalize l[k] = x at s1 s2 HC HBA hxl e2 e3 e4
      obtain ⟨x1, x2⟩ := x
      simp only at s1 s2 HC HBA hxl e2 e3 e4
      rcases b1 with _ | _
      · clear e2 e3 e4
        go_wp2_with fail
        refine (HC.out _).mono ?_
        rintro e w1 ⟨rfl, rfl⟩
        go_wp2_with fail
        go_ret
        exact ⟨ret_bool (by have := HS.out; simpa using this.symm), HBA.out⟩
      · rcases b2 with _ | _
        · simp only [Bool.not_false] at e2
          clear e3 e4
          go_wp2_with fail
          refine (HC.out _).mono ?_
          rintro e w1 ⟨rfl, rfl⟩
          go_wp2_with fail
          go_ret
          exact ⟨ret_bool (by have := HS.out; simpa using this.symm), HBA.out⟩
        · simp only [Bool.not_true] at e2
          rcases b3 with _ | _
          · simp only [Bool.not_false] at e3
            rcases b4 with _ | _
            · go_wp2_with fail
              refine (HC.out _).mono ?_
              rintro e w1 ⟨rfl, rfl⟩
              go_wp2_with fail
              go_ret
              exact ⟨ret_bool (by have := HS.out; simpa using this.symm), HBA.out⟩
            · go_wp2_with fail
              refine (HC.out _).mono ?_
              rintro e w1 ⟨rfl, rfl⟩
              go_wp2_with fail
              go_roundw
              case rel => exact ⟨k + 1, by omega, by go_num, HBA, by have := HS.out; simpa [Hid] using this⟩
              case measure => simp [intOf]; omega
          · simp only [Bool.not_true] at e3
            clear e4
            go_wp2_with fail
            refine (HC.out _).mono ?_
            rintro e w1 ⟨rfl, rfl⟩
            go_wp2_with fail
            go_roundw
            case rel => exact ⟨k + 1, by omega, by go_num, HBA, by have := HS.out; simpa [Hid] using this⟩
            case measure => simp [intOf]; omega
    · have HT : Hid (resA l = decide (l.length ≤ 10)) := res_end (by omega) HO.out
      clear HO hat hx
      go_wp2_with fail
      go_ret
      refine ⟨?_, HB.out⟩
      rw [HT.out]
      show Ending.returned (.bool (decide ((l.length : Int) ≤ 10))) = _
      congr 2
      simp only [decide_eq_decide]
      omega

theorem specResults_b {l : List ResT} {b : Bool} (h : resA l = b) (v : Value) (w : World) (hrow : RowR w v l) (hx : ∀ f ∈ l, f.1.length ≤ maxLen) : Calls Try.prog 74 #[v] w (BoolPost b w) := by
  have := specResults_any l v w hrow hx; rwa [h] at this

set_option maxRecDepth 20000 in
set_option maxHeartbeats 2000000 in
theorem specFailed_any (l : List ResT) (v : Value) (w : World) (hrow : RowR w v l) (hx : ∀ f ∈ l, f.1.length ≤ maxLen) :
    Calls Try.prog 30 #[v] w (IntsOk (failA l) (resA l) w) := by
  rcases hG : resA l with _ | _
  · have HC := Lib.hid (specResults_b hG v w hrow hx)
    have HT : Hid (failA l = []) := by rw [failA, hG]; rfl
    clear hG hx hrow
    go_enter Try.func30, Try.ntmps30
    go_wp2_with fail
    refine HC.out.mono ?_
    rintro e w1 ⟨rfl, hb1⟩
    have HB1 := Lib.hid hb1
    clear hb1 HC
    go_wp2_with fail
    go_ret2
    exact ⟨_, rfl, by rw [HT.out]; exact none_own _ _ _, HB1.out⟩
  · have HC := Lib.hid (specResults_b hG v w hrow hx)
    have HT : Hid (failA l = failK l l.length) := by rw [failA, hG]; rfl
    have h10 := (resA_small hG).1
    obtain ⟨a, cap, rfl, hc1, hc2, hat⟩ := hrow.res
    clear hG hrow hx
    unfold maxLen at hc2
    go_enter Try.func30, Try.ntmps30
    go_wp2_with fail
    refine HC.out.mono ?_
    rintro e w1 ⟨rfl, hb1⟩
    have HB0 := Lib.hid hb1
    clear hb1 HC
    go_wp2_with fail
    go_loopw [4, 12] (fun q i wr => ∃ k : Nat, k ≤ l.length ∧ i = .int .i64 k ∧ Hid (Below w.heap.size w wr) ∧ Hid (wr.ownsRow w.heap.size 3 1 q (failK l k).length (I (failK l k)))) (fun _ i _ => l.length - (intOf i).toNat)
    case atStart => exact ⟨0, Nat.zero_le _, rfl, HB0.out, none_own _ _ _⟩
    case round =>
      clear HB0
      obtain ⟨k, hk, rfl, HB, HN⟩ := hrel
      have hbs := HB.out.size
      have hkl := failK_len l k
      by_cases hlt : k < l.length
      · obtain ⟨g, o, rfl, hg, hcell1, hcell2⟩ := hat k hlt
        have s1 := (HB.out.cell (p := ⟨g, o + k * 2, none⟩) hg).trans hcell1
        have s2 := (HB.out.cell (p := ⟨g, o + k * 2 + 1, none⟩) hg).trans hcell2
        have HBA := Lib.hid (HB.out.alloc hbs (.cells #[.string ⟨l[k].1.toArray⟩, .int .i64 l[k].2] 96))
        have HNA := Lib.hid (own_I (HN.out.alloc (.cells #[.string ⟨l[k].1.toArray⟩, .int .i64 l[k].2] 96)))
        clear hcell1 hcell2 hat HN
        by_cases h1 : l[k].2 = 1
        · have HE := Lib.hid (failK_yes hlt h1)
          have hd : (l[k].2 == 1) = true := by simp [h1]
          clear h1
          generalize l[k] = x at s1 s2 HBA HNA hd
          obtain ⟨x1, x2⟩ := x
          simp only at s1 s2 HBA HNA hd
          generalize failK l k = m at HE HNA hkl
          have hIl : (I m).length ≤ 1000000 := by rw [I_len]; omega
          go_wp2_with (at_builtin; refine wpAppOne elemI rfl _ _ rfl w.heap.size _ (I m) rfl HNA.out _ rfl (by simp) rfl hIl HBA.out.size ?_; intro v7 w7 hown7 hg7; have HN7 := Lib.hid (own_I2 hown7); have HB7 := Lib.hid (HBA.out.trans (below_own HNA.out hg7 HBA.out.size)); clear hown7 hg7)
          go_roundw
          case rel => exact ⟨k + 1, by omega, by go_num, HB7, by rw [HE.out]; exact HN7.out⟩
          case measure => simp [intOf]; omega
        · have HE := Lib.hid (failK_no hlt h1)
          have hd : (l[k].2 == 1) = false := by simpa using h1
          clear h1
          generalize l[k] = x at s1 s2 HBA HNA hd
          obtain ⟨x1, x2⟩ := x
          simp only at s1 s2 HBA HNA hd
          go_wp2_with fail
          go_roundw
          case rel => exact ⟨k + 1, by omega, by go_num, HBA, by rw [HE.out]; have := HNA.out; rwa [I_len] at this⟩
          case measure => simp [intOf]; omega
      · obtain rfl : k = l.length := by omega
        clear hat
        go_wp2_with fail
        go_ret2
        exact ⟨_, rfl, by rw [HT.out]; exact HN.out, HB.out⟩

-- the program's
theorem longR_b {x : List UInt8} {b : Bool} (h : decide (x.length ≤ 40) = b) (w : World) (hl : x.length ≤ maxLen) : Calls Try.prog 72 #[.string ⟨x.toArray⟩] w fun e w' => e = .returned (.bool (!b)) ∧ w = w' := by
  go_enter Try.func72, Try.ntmps72
  go_wp2
  go_ret
  refine ⟨?_, rfl⟩
  congr 2
  rw [← h]
  simp [ByteArray.size]
  rw [Bool.eq_iff_iff]
  simp <;> omega

set_option maxHeartbeats 1000000 in
theorem noRes_b {o : ResT} {b : Bool} (h : resOk o = b) (w : World) (hx : o.1.length ≤ maxLen) :
    Calls Try.prog 108 #[resV o] w (BoolPost (!b) w) := by
  obtain ⟨t, n⟩ := o
  subst h
  unfold resV
  simp only at hx ⊢
  have HB := Lib.hid ((Below.refl w.heap.size w).alloc (Nat.le_refl _) (.cells #[.string ⟨t.toArray⟩, .int .i64 n] 96))
  obtain ⟨b2, hb2⟩ : ∃ b, decide (t.length ≤ 40) = b := ⟨_, rfl⟩
  have HC := Lib.hid (fun W => longR_b hb2 W hx)
  unfold maxLen at hx
  by_cases k0 : n = 0
  · subst k0
    have HT : Hid (resOk (t, 0) = b2) := by unfold resOk; rw [hb2]; simp [Hid]
    clear hb2
    go_enter Try.func108, Try.ntmps108
    go_wp2_with fail
    refine (HC.out _).mono ?_
    rintro e w1 ⟨rfl, rfl⟩
    go_wp2_with fail
    go_ret
    exact ⟨by rw [HT.out] <;> rfl, HB.out⟩
  have e0 : (n == 0) = false := by simpa using k0
  obtain ⟨b4, hb4⟩ : ∃ b, decide (t = []) = b := ⟨_, rfl⟩
  have e4 := nil_b hb4
  have hle : b4 = true → b2 = true := by rintro rfl; rw [← hb2]; have := of_decide_eq_true hb4; rw [this]; rfl
  by_cases k12 : n = 1 ∨ n = 2
  · have HT : Hid (resOk (t, n) = b4) := by
      unfold resOk; rw [hb2, hb4]
      rcases k12 with rfl | rfl <;> (cases b4 <;> simp_all [Hid])
    clear hb2 hb4 hle HC e0 k0
    rcases k12 with rfl | rfl <;> rcases b4 with _ | _ <;>
      (go_enter Try.func108, Try.ntmps108
       go_wp2_with fail
       go_ret
       exact ⟨by rw [HT.out] <;> rfl, HB.out⟩)
  · have HT : Hid (resOk (t, n) = false) := by
      unfold resOk Hid
      have : (decide (0 ≤ n) && decide (n ≤ 2)) = false := by simp; omega
      rw [this]; rfl
    have e1 : (n != 1) = true := by simp; omega
    have e2 : (n != 2) = true := by simp; omega
    clear hb2 hb4 hle HC k0 e4 k12
    go_enter Try.func108, Try.ntmps108
    go_wp2_with fail
    go_ret
    exact ⟨by rw [HT.out] <;> rfl, HB.out⟩

/-- Whether one is none. -/
def noneL (l : List ResT) : Bool := l.any (fun r => !resOk r)
theorem none_at {l : List ResT} {k : Nat} (h : k < l.length) (hx : resOk l[k] = false) : noneL l = true := by
  rw [noneL, List.any_eq_true]
  exact ⟨l[k], List.getElem_mem h, by simp [hx]⟩
theorem none_all {l : List ResT} (h : l.all resOk = true) : noneL l = false := by
  rw [noneL, List.any_eq_false]
  intro x hm
  have := List.all_eq_true.1 h x hm
  simp [this]

set_option maxRecDepth 20000 in
set_option maxHeartbeats 2000000 in
theorem index_anyR (l : List ResT) (v : Value) (w : World) (hrow : RowR w v l) (hx : ∀ f ∈ l, f.1.length ≤ maxLen) :
    Calls Try.prog 129 #[v, .func (.func 108) #[] #[]] w fun e w' => ∃ i : Int, e = .returned (.int .i64 i) ∧ (0 ≤ i ↔ noneL l = true) ∧ Below w.heap.size w w' := by
  obtain ⟨a, cap, rfl, hc1, hc2, hat⟩ := hrow.res
  clear hrow
  unfold maxLen at hc2
  go_enter Try.func129, Try.ntmps129
  go_wp2_with fail
  go_loopw [8] (fun i wr => ∃ k : Nat, k ≤ l.length ∧ i = .int .i64 k ∧ Hid (Below w.heap.size w wr) ∧ Hid ((l.take k).all resOk = true)) (fun i _ => l.length - (intOf i).toNat)
  case atStart => exact ⟨0, Nat.zero_le _, by go_num, Below.refl _ _, by simp [Hid]⟩
  case round =>
    obtain ⟨k, hk, rfl, HB, HO⟩ := hrel
    by_cases hlt : k < l.length
    · obtain ⟨g, o, rfl, hg, hcell1, hcell2⟩ := hat k hlt
      have s1 := (HB.out.cell (p := ⟨g, o + k * 2, none⟩) hg).trans hcell1
      have s2 := (HB.out.cell (p := ⟨g, o + k * 2 + 1, none⟩) hg).trans hcell2
      have hxl := hx l[k] (List.getElem_mem hlt)
      have hltz : (k : Int) < (l.length : Int) := by omega
      obtain ⟨b, hbE⟩ : ∃ b, resOk l[k] = b := ⟨_, rfl⟩
      have HC := Lib.hid (fun W => noRes_b hbE W hxl)
      rcases b with _ | _
      · have HS := Lib.hid (none_at hlt hbE)
        clear hcell1 hcell2 hat HO hx hxl hbE
        generalize l[k] = x at s1 s2 HC
        obtain ⟨x1, x2⟩ := x
        unfold resV at HC
        simp only at s1 s2 HC
        go_wp2_with (go_at_call 108; refine (HC.out _).mono ?_; rintro e w1 ⟨rfl, hb1⟩; have HB1 := Lib.hid (bthR HB.out hb1); clear hb1)
        go_ret
        exact ⟨(k : Int), rfl, by rw [HS.out]; simp, HB1.out⟩
      · have HS := Lib.hid (res_next hlt HO.out hbE)
        clear hcell1 hcell2 hat HO hx hxl hbE
        generalize l[k] = x at s1 s2 HC
        obtain ⟨x1, x2⟩ := x
        unfold resV at HC
        simp only at s1 s2 HC
        go_wp2_with (go_at_call 108; refine (HC.out _).mono ?_; rintro e w1 ⟨rfl, hb1⟩; have HB1 := Lib.hid (bthR HB.out hb1); clear hb1)
        go_roundw
        case rel => exact ⟨k + 1, by omega, by go_num, HB1, HS⟩
        case measure => simp [intOf]; omega
    · have HS : Hid (noneL l = false) := none_all (by have := HO.out; rwa [List.take_of_length_le (by omega)] at this)
      have hltz : ¬ ((k : Int) < (l.length : Int)) := by omega
      clear hat HO hx
      go_wp2_with fail
      go_ret
      exact ⟨-1, rfl, by rw [HS.out]; simp, HB.out⟩

set_option maxRecDepth 20000 in
set_option maxHeartbeats 1000000 in
theorem contains_anyR (l : List ResT) (v : Value) (w : World) (hrow : RowR w v l) (hx : ∀ f ∈ l, f.1.length ≤ maxLen) :
    Calls Try.prog 107 #[v, .func (.func 108) #[] #[]] w (BoolPost (noneL l) w) := by
  have HC := Lib.hid (index_anyR l v w hrow hx)
  clear hrow hx
  go_enter Try.func107, Try.ntmps107
  go_wp2_with fail
  refine HC.out.mono ?_
  rintro e w1 ⟨i, rfl, hi, hb1⟩
  have HI := Lib.hid hi
  have HB1 := Lib.hid hb1
  clear hi HC hb1
  go_wp2_with fail
  go_ret
  refine ⟨?_, HB1.out⟩
  show Ending.returned (.bool (decide (0 ≤ i))) = _
  congr 2
  rw [Bool.eq_iff_iff, decide_eq_true_eq]
  exact HI.out
theorem contains_bR {l : List ResT} {b : Bool} (h : noneL l = b) (v : Value) (w : World) (hrow : RowR w v l) (hx : ∀ f ∈ l, f.1.length ≤ maxLen) :
    Calls Try.prog 107 #[v, .func (.func 108) #[] #[]] w (BoolPost b w) := by
  have := contains_anyR l v w hrow hx; rwa [h] at this
theorem resA_is (l : List ResT) : resA l = (decide (l.length ≤ 10) && !noneL l) := by
  unfold resA
  rcases h : l.all resOk with _ | _
  · obtain ⟨x, hm, hx⟩ := List.all_eq_false.1 h
    have : noneL l = true := by rw [noneL, List.any_eq_true]; exact ⟨x, hm, by simpa using hx⟩
    rw [this]; rfl
  · rw [none_all h]; rfl

set_option maxRecDepth 20000 in
set_option maxHeartbeats 1000000 in
theorem areRes_b {l : List ResT} {b : Bool} (h : resA l = b) (v : Value) (w : World) (hrow : RowR w v l) (hx : ∀ f ∈ l, f.1.length ≤ maxLen) :
    Calls Try.prog 76 #[v] w (BoolPost b w) := by
  rw [resA_is] at h
  obtain ⟨c, hc⟩ : ∃ c, noneL l = c := ⟨_, rfl⟩
  have HC := Lib.hid (contains_bR hc v w hrow hx)
  obtain ⟨a, cap, rfl, hc1, hc2, _⟩ := hrow.res
  rw [hc] at h
  clear hrow hx hc
  unfold maxLen at hc2
  by_cases h10 : l.length ≤ 10
  · have hd : decide ((l.length : Int) ≤ 10) = true := by simp; omega
    have HT : Hid (b = !c) := by rw [← h, decide_eq_true h10]; rfl
    clear h h10
    go_enter Try.func76, Try.ntmps76
    go_wp2_with fail
    refine HC.out.mono ?_
    rintro e w1 ⟨rfl, hb1⟩
    have HB1 := Lib.hid hb1
    clear hb1 HC
    go_wp2_with fail
    go_ret
    exact ⟨by rw [HT.out] <;> rfl, HB1.out⟩
  · have hd : decide ((l.length : Int) ≤ 10) = false := by simp; omega
    have HT : Hid (b = false) := by rw [← h, decide_eq_false h10]; rfl
    clear h h10 HC
    go_enter Try.func76, Try.ntmps76
    go_wp2_with fail
    go_ret
    exact ⟨by rw [HT.out] <;> rfl, Below.refl _ _⟩

set_option maxRecDepth 20000 in
set_option maxHeartbeats 2000000 in
theorem implFailed_any (l : List ResT) (v : Value) (w : World) (hrow : RowR w v l) (hx : ∀ f ∈ l, f.1.length ≤ maxLen) :
    Calls Try.prog 32 #[v] w (IntsOk (failA l) (resA l) w) := by
  rcases hG : resA l with _ | _
  · have HC := Lib.hid (areRes_b hG v w hrow hx)
    have HT : Hid (failA l = []) := by rw [failA, hG]; rfl
    clear hG hx hrow
    go_enter Try.func32, Try.ntmps32
    go_wp2_with fail
    refine HC.out.mono ?_
    rintro e w1 ⟨rfl, hb1⟩
    have HB1 := Lib.hid hb1
    clear hb1 HC
    go_wp2_with fail
    go_ret2
    exact ⟨_, rfl, by rw [HT.out]; exact none_own _ _ _, HB1.out⟩
  · have HC := Lib.hid (areRes_b hG v w hrow hx)
    have HT : Hid (failA l = failK l l.length) := by rw [failA, hG]; rfl
    have h10 := (resA_small hG).1
    obtain ⟨a, cap, rfl, hc1, hc2, hat⟩ := hrow.res
    clear hG hrow hx
    unfold maxLen at hc2
    go_enter Try.func32, Try.ntmps32
    go_wp2_with fail
    refine HC.out.mono ?_
    rintro e w1 ⟨rfl, hb1⟩
    have HB0 := Lib.hid hb1
    clear hb1 HC
    go_wp2_with fail
    go_loopw [4, 12] (fun q i wr => ∃ k : Nat, k ≤ l.length ∧ i = .int .i64 k ∧ Hid (Below w.heap.size w wr) ∧ Hid (wr.ownsRow w.heap.size 3 1 q (failK l k).length (I (failK l k)))) (fun _ i _ => l.length - (intOf i).toNat)
    case atStart => exact ⟨0, Nat.zero_le _, rfl, HB0.out, none_own _ _ _⟩
    case round =>
      clear HB0
      obtain ⟨k, hk, rfl, HB, HN⟩ := hrel
      have hbs := HB.out.size
      have hkl := failK_len l k
      by_cases hlt : k < l.length
      · obtain ⟨g, o, rfl, hg, hcell1, hcell2⟩ := hat k hlt
        have s1 := (HB.out.cell (p := ⟨g, o + k * 2, none⟩) hg).trans hcell1
        have s2 := (HB.out.cell (p := ⟨g, o + k * 2 + 1, none⟩) hg).trans hcell2
        have HBA := Lib.hid (HB.out.alloc hbs (.cells #[.string ⟨l[k].1.toArray⟩, .int .i64 l[k].2] 96))
        have HNA := Lib.hid (own_I (HN.out.alloc (.cells #[.string ⟨l[k].1.toArray⟩, .int .i64 l[k].2] 96)))
        clear hcell1 hcell2 hat HN
        by_cases h1 : l[k].2 = 1
        · have HE := Lib.hid (failK_yes hlt h1)
          have hd : (l[k].2 == 1) = true := by simp [h1]
          clear h1
          generalize l[k] = x at s1 s2 HBA HNA hd
          obtain ⟨x1, x2⟩ := x
          simp only at s1 s2 HBA HNA hd
          generalize failK l k = m at HE HNA hkl
          have hIl : (I m).length ≤ 1000000 := by rw [I_len]; omega
          go_wp2_with (at_builtin; refine wpAppOne elemI rfl _ _ rfl w.heap.size _ (I m) rfl HNA.out _ rfl (by simp) rfl hIl HBA.out.size ?_; intro v7 w7 hown7 hg7; have HN7 := Lib.hid (own_I2 hown7); have HB7 := Lib.hid (HBA.out.trans (below_own HNA.out hg7 HBA.out.size)); clear hown7 hg7)
          go_roundw
          case rel => exact ⟨k + 1, by omega, by go_num, HB7, by rw [HE.out]; exact HN7.out⟩
          case measure => simp [intOf]; omega
        · have HE := Lib.hid (failK_no hlt h1)
          have hd : (l[k].2 == 1) = false := by simpa using h1
          clear h1
          generalize l[k] = x at s1 s2 HBA HNA hd
          obtain ⟨x1, x2⟩ := x
          simp only at s1 s2 HBA HNA hd
          go_wp2_with fail
          go_roundw
          case rel => exact ⟨k + 1, by omega, by go_num, HBA, by rw [HE.out]; have := HNA.out; rwa [I_len] at this⟩
          case measure => simp [intOf]; omega
      · obtain rfl : k = l.length := by omega
        clear hat
        go_wp2_with fail
        go_ret2
        exact ⟨_, rfl, by rw [HT.out]; exact HN.out, HB.out⟩

end Go.Proofs.Ytnkkbleebfijgaa

/- Walks: the law that those that failed are told alike. -/
namespace Go.Proofs.Ytnkkbleebfijgaa
open Go.RowKit Pth

/-- The law says yes, and nothing that lay there has turned. -/
def YesW (w : World) (e : Ending) (w' : World) : Prop := e = .returned (.bool true) ∧ Below w.heap.size w w'
theorem failA_short (l : List ResT) : (failA l).length ≤ 10 := by
  unfold failA
  split
  · rename_i h
    have := (resA_small h).1
    have := failK_len l l.length
    omega
  · simp
/-- A list that another list's block is no part of. -/
theorem own_besideR {w w' : World} {B1 e n : Nat} {v u : Value} {xs : List Value} (h : w.ownsRow B1 e 1 v n xs) (hg : w.grownBy w' u.ownBlock) (hu : ∀ k, u.ownBlock = some k → k < B1) : w'.ownsRow B1 e 1 v n xs := by
  refine h.kept hg ?_
  rcases hv : v.ownBlock with _ | k
  · exact .inl rfl
  · refine .inr (fun e => ?_)
    have h1 := (h.lt k hv).1
    have h2 := hu k e.symm
    omega
set_option maxRecDepth 20000 in
set_option maxHeartbeats 8000000 in
theorem exactFailed_any (l : List ResT) (v : Value) (w : World) (hrow : RowR w v l) (hx : ∀ f ∈ l, f.1.length ≤ maxLen) :
    Calls Try.prog 6 #[v] w (YesW w) := by
  have HS := Lib.hid (szResultS_any l 1048576 v w hrow hx (by omega))
  have HR := Lib.hid hrow
  have HSP := Lib.hid (fun u W hr => specFailed_any l u W hr hx)
  have HIH := Lib.hid (fun u W hr => implFailed_any l u W hr hx)
  have hL0 := failA_short l
  have hL : (failA l).length ≤ 2000000 := by omega
  clear hrow hx hL0
  generalize failA l = R at HSP HIH hL
  generalize resA l = ok at HSP HIH
  have hne : (ok != ok) = false := by cases ok <;> rfl
  go_enter Try.func6, Try.ntmps6
  go_wp2_with fail
  refine HS.out.mono ?_
  rintro e w0 ⟨r, rfl, _, hr, hb0⟩
  by_cases h0 : r < 0
  · have HB1 := Lib.hid hb0
    clear hr hb0
    go_wp2_with fail
    go_ret
    exact ⟨rfl, HB1.out⟩
  have hl2 : l.length ≤ 1100000 := by have := (hr (by omega)).1; omega
  have hl3 : l.length ≤ 2000000 := by omega
  have HB0 := Lib.hid hb0
  clear hr hb0 HS
  go_wp2_with fail
  refine (toResultS_any l _ w0 (HR.out.below HB0.out) hl3).mono ?_
  rintro e w1 ⟨v1, rfl, hown1, hb1⟩
  have HC1 := Lib.hid (HSP.out v1 w1 (RowR.of_own hown1))
  have HB1 := Lib.hid (HB0.out.trans (hb1.mono HB0.out.size))
  clear hown1 hb1 HB0
  go_wp2_with fail
  refine HC1.out.mono ?_
  rintro e w2 ⟨v2, rfl, hown2, hb2⟩
  have HB2 := Lib.hid (HB1.out.trans (hb2.mono HB1.out.size))
  have HW := Lib.hid hown2
  clear hown2 hb2 HC1
  go_wp2_with fail
  refine (toResultS_any l _ w2 (HR.out.below HB2.out) hl3).mono ?_
  rintro e w3 ⟨v3, rfl, hown3, hb3⟩
  have HX := Lib.hid hown3
  have HS3 := Lib.hid hb3
  have HB3 := Lib.hid (HB2.out.trans (hb3.mono HB2.out.size))
  clear hown3 hb3
  go_wp2_with fail
  refine (HIH.out v3 w3 (RowR.of_own HX.out)).mono ?_
  rintro e w4 ⟨v4, rfl, hown4, hb4⟩
  have HG := Lib.hid hown4
  have H34 := Lib.hid hb4
  have HS4 := Lib.hid (HS3.out.trans (hb4.mono HS3.out.size))
  have HB4 := Lib.hid (HB3.out.trans (hb4.mono HB3.out.size))
  clear hown4 hb4
  go_wp2_with fail
  refine (eqIntS_any R R v4 v2 w4 (RowV.of_own HG.out) (RowV.of_own (own_below HW.out HS4.out)) hL).mono ?_
  rw [decide_eq_true (rfl : R = R)]
  rintro e w5 ⟨rfl, hb5⟩
  have H45 := Lib.hid hb5
  have HS5 := Lib.hid (HS4.out.trans (hb5.mono HS4.out.size))
  have HB5 := Lib.hid (HB4.out.trans (hb5.mono HB4.out.size))
  clear hb5
  go_wp2_with fail
  refine (toResultS_any l _ w5 (HR.out.below HB5.out) hl3).mono ?_
  rintro e w6 ⟨v6, rfl, hown6, hb6⟩
  have H46 := Lib.hid (H45.out.trans (hb6.mono H45.out.size))
  have HS6 := Lib.hid (HS5.out.trans (hb6.mono HS5.out.size))
  have HB6 := Lib.hid (HB5.out.trans (hb6.mono HB5.out.size))
  have HY := Lib.hid hown6
  clear hown6 hb6
  go_wp2_with fail
  refine (eqResultS_any l l v3 v6 w6 (RowR.of_own (own_belowG (own_belowG HX.out H34.out) H46.out)) (RowR.of_own HY.out) hl3).mono ?_
  rw [decide_eq_true (rfl : l = l)]
  rintro e w7 ⟨rfl, hb7⟩
  have H47 := Lib.hid (H46.out.trans (hb7.mono H46.out.size))
  have HS7 := Lib.hid (HS6.out.trans (hb7.mono HS6.out.size))
  have HB7 := Lib.hid (HB6.out.trans (hb7.mono HB6.out.size))
  clear hb7 HY
  go_wp2_with fail
  have HX7 := Lib.hid (own_belowG (own_belowG HX.out H34.out) H47.out)
  refine (markResultS_any l 1 w2.heap.size v3 w7 HX7.out hl2 (by omega) (by omega)).mono ?_
  rintro e w8 ⟨rfl, _, hg8⟩
  have HS8 := Lib.hid (HS7.out.trans (below_ownG HX7.out hg8 HS7.out.size))
  have HB8 := Lib.hid (HB7.out.trans ((below_ownG HX7.out hg8 HS7.out.size).mono HB2.out.size))
  have HG8 := Lib.hid (own_besideR (own_below HG.out H47.out) hg8 (fun k hk => (HX.out.lt k hk).2))
  have hs8 : w3.heap.size ≤ w8.heap.size := Nat.le_trans H34.out.size (Nat.le_trans H47.out.size hg8.size)
  clear hg8 HX7
  have hk0 : decide ((1 : Int) + (l.length : Int) * 2 < 0) = false := decide_eq_false (by omega)
  go_wp2_with fail
  refine (eqIntS_any R R v4 v2 w8 (RowV.of_own HG8.out) (RowV.of_own (own_below HW.out HS8.out)) hL).mono ?_
  rw [decide_eq_true (rfl : R = R)]
  rintro e w9 ⟨rfl, hb9⟩
  have HG9 := Lib.hid (own_below HG8.out hb9)
  have HS9 := Lib.hid (HS8.out.trans (hb9.mono HS8.out.size))
  have HB9 := Lib.hid (HB8.out.trans (hb9.mono HB8.out.size))
  have hs9 : w3.heap.size ≤ w9.heap.size := Nat.le_trans hs8 hb9.size
  clear hb9 HG8
  go_wp2_with fail
  refine (markIntS_any R 1 w3.heap.size v4 w9 HG9.out hL (by omega)).mono ?_
  rintro e w10 ⟨rfl, hown10, hg10⟩
  have hS := below_own (own_base HG9.out HS3.out.size) hg10 HS9.out.size
  have HS10 := Lib.hid (HS9.out.trans hS)
  have HB10 := Lib.hid (HB9.out.trans (hS.mono HB2.out.size))
  have HM := Lib.hid hown10
  clear hown10 hg10 hS HG9
  go_wp2_with fail
  refine (heldIntS_any 1 R.length v4 w10 (RowV.of_own HM.out) hL (by omega)).mono ?_
  rintro e w11 ⟨rfl, hb11⟩
  have HM11 := Lib.hid hb11
  have HS11 := Lib.hid (HS10.out.trans (hb11.mono HS10.out.size))
  have HB11 := Lib.hid (HB10.out.trans (hb11.mono HB10.out.size))
  clear hb11
  go_wp2_with fail
  refine (toResultS_any l _ w11 (HR.out.below HB11.out) hl3).mono ?_
  rintro e w12 ⟨v12, rfl, hown12, hb12⟩
  have HX12 := Lib.hid hown12
  have HM12 := Lib.hid (HM11.out.trans (hb12.mono HM11.out.size))
  have HS12 := Lib.hid (HS11.out.trans (hb12.mono HS11.out.size))
  have HB12 := Lib.hid (HB11.out.trans (hb12.mono HB11.out.size))
  clear hown12 hb12
  go_wp2_with fail
  refine (HIH.out v12 w12 (RowR.of_own HX12.out)).mono ?_
  rintro e w13 ⟨v13, rfl, hown13, hb13⟩
  have HH := Lib.hid hown13
  have HM13 := Lib.hid (HM12.out.trans (hb13.mono HM12.out.size))
  have HS13 := Lib.hid (HS12.out.trans (hb13.mono HS12.out.size))
  have HB13 := Lib.hid (HB12.out.trans (hb13.mono HB12.out.size))
  clear hown13 hb13
  go_wp2_with fail
  refine (eqIntS_any R R v13 v2 w13 (RowV.of_own HH.out) (RowV.of_own (own_below HW.out HS13.out)) hL).mono ?_
  rw [decide_eq_true (rfl : R = R)]
  rintro e w14 ⟨rfl, hb14⟩
  have HM14 := Lib.hid (HM13.out.trans (hb14.mono HM13.out.size))
  have HB14 := Lib.hid (HB13.out.trans (hb14.mono HB13.out.size))
  clear hb14
  go_wp2_with fail
  refine (heldIntS_any 1 R.length v4 w14 (RowV.of_own (own_below HM.out HM14.out)) hL (by omega)).mono ?_
  rintro e w15 ⟨rfl, hb15⟩
  have HB15 := Lib.hid (HB14.out.trans (hb15.mono HB14.out.size))
  clear hb15
  go_wp2_with fail
  go_ret
  exact ⟨rfl, HB15.out⟩
end Go.Proofs.Ytnkkbleebfijgaa
