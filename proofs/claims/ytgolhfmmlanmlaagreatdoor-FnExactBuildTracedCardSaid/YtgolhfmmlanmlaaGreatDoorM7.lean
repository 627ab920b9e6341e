/- Texts of one claim, joined in their order. -/
import Derived.Test.YtgolhfmmlanmlaaGreatDoorM6
import Derived.Test.YtgolhfmmlanmlaaGreatDoorM5
import Derived.Test.YtgolhfmmlanmlaaGreatDoorM2

/- Walks: results that are good, and those that failed, of the reference and of the program. -/
namespace Go.Proofs.YtgolhfmmlanmlaaGreatDoor
open Go.RowKit Pth

theorem bthR {B : Nat} {w w1 w2 : World} (h : Below B w w1) (k : Below w1.heap.size w1 w2) (hB : B ≤ w.heap.size := by exact Nat.le_refl _) : Below B w w2 := h.trans (k.mono (Nat.le_trans hB h.size))
/-- Whether a result is one. -/
def resOk (r : ResT) : Bool := decide (0 ≤ r.2) && decide (r.2 ≤ 2) && decide (r.1.length ≤ 40) && (decide (r.2 = 0) || decide (r.1 = []))
def resA (l : List ResT) : Bool := decide (l.length ≤ 10) && l.all resOk
/-- Those of the first k that failed. -/
def failK (l : List ResT) (k : Nat) : List Int := ((List.range k).filter (fun j => decide ((l.getD j noRes).2 = 1))).map Int.ofNat
def failA (l : List ResT) : List Int := if resA l then failK l l.length else []
theorem failK_len (l : List ResT) (k : Nat) : (failK l k).length ≤ k := by
  unfold failK
  rw [List.length_map]
  exact Nat.le_trans (List.length_filter_le _ _) (by simp)
theorem failK_yes {l : List ResT} {k : Nat} (hk : k < l.length) (h : l[k].2 = 1) : failK l (k + 1) = failK l k ++ [(k : Int)] := by
  unfold failK
  rw [List.range_succ, List.filter_append, List.map_append]
  have : (l[k]?.getD noRes).2 = 1 := by rw [List.getElem?_eq_getElem hk]; exact h
  simp [this]
theorem failK_no {l : List ResT} {k : Nat} (hk : k < l.length) (h : l[k].2 ≠ 1) : failK l (k + 1) = failK l k := by
  unfold failK
  rw [List.range_succ, List.filter_append, List.map_append]
  have : ¬ (l[k]?.getD noRes).2 = 1 := by rw [List.getElem?_eq_getElem hk]; exact h
  simp [this]
theorem res_bad {l : List ResT} {k : Nat} (hk : k < l.length) (h : resOk l[k] = false) : resA l = false := by
  unfold resA
  rw [show l.all resOk = false from List.all_eq_false.2 ⟨l[k], List.getElem_mem hk, by simp [h]⟩, Bool.and_false]
theorem res_next {l : List ResT} {k : Nat} (hk : k < l.length) (ha : (l.take k).all resOk = true) (h : resOk l[k] = true) : (l.take (k + 1)).all resOk = true := by
  rw [List.take_succ_eq_append_getElem hk, List.all_append, ha]; simp [h]
theorem res_end {l : List ResT} {k : Nat} (hk : l.length ≤ k) (ha : (l.take k).all resOk = true) : resA l = decide (l.length ≤ 10) := by
  rw [List.take_of_length_le hk] at ha
  unfold resA; rw [ha, Bool.and_true]
theorem resA_small {l : List ResT} (h : resA l = true) : l.length ≤ 10 ∧ ∀ r ∈ l, r.1.length ≤ 40 := by
  unfold resA at h
  simp only [Bool.and_eq_true, decide_eq_true_eq, List.all_eq_true] at h
  refine ⟨h.1, fun r hr => ?_⟩
  have := h.2 r hr
  simp only [resOk, Bool.and_eq_true, decide_eq_true_eq] at this
  exact this.1.2

set_option maxRecDepth 20000 in
set_option maxHeartbeats 2000000 in
theorem specResults_any (l : List ResT) (v : Value) (w : World) (hrow : RowR w v l) (hx : ∀ f ∈ l, f.1.length ≤ maxLen) :
    Calls Tryz.prog 105 #[v] w (BoolPost (resA l) w) := by
  obtain ⟨a, cap, rfl, hc1, hc2, hat⟩ := hrow.res
  clear hrow
  unfold maxLen at hc2 hx
  go_enter Tryz.func105, Tryz.ntmps105
  go_wp2_with fail
  go_loopw [7] (fun i wr => ∃ k : Nat, k ≤ l.length ∧ i = .int .i64 k ∧ Hid (Below w.heap.size w wr) ∧ Hid ((l.take k).all resOk = true)) (fun i _ => l.length - (intOf i).toNat)
  case atStart => exact ⟨0, Nat.zero_le _, rfl, Below.refl _ _, by simp [Hid]⟩
  case round =>
    obtain ⟨k, hk, rfl, HB, HO⟩ := hrel
    have hbs := HB.out.size
    by_cases hlt : k < l.length
    · obtain ⟨g, o, rfl, hg, hcell1, hcell2⟩ := hat k hlt
      have s1 := (HB.out.cell (p := ⟨g, o + k * 2, none⟩) hg).trans hcell1
      have s2 := (HB.out.cell (p := ⟨g, o + k * 2 + 1, none⟩) hg).trans hcell2
      have HBA := Lib.hid (HB.out.alloc hbs (.cells #[.string ⟨l[k].1.toArray⟩, .int .i64 l[k].2] 75))
      have hxl := hx l[k] (List.getElem_mem hlt)
      obtain ⟨b1, hb1⟩ : ∃ b, (decide (0 ≤ l[k].2) && decide (l[k].2 ≤ 2)) = b := ⟨_, rfl⟩
      obtain ⟨b2, hb2⟩ : ∃ b, decide (l[k].1.length ≤ 40) = b := ⟨_, rfl⟩
      obtain ⟨b3, hb3⟩ : ∃ b, decide (l[k].2 = 0) = b := ⟨_, rfl⟩
      obtain ⟨b4, hb4⟩ : ∃ b, decide (l[k].1 = []) = b := ⟨_, rfl⟩
      have HC := Lib.hid (fun W => in_l hb1 W)
      have HS : Hid (if (b1 && b2 && (b3 || b4)) then (l.take (k + 1)).all resOk = true else resA l = false) := by
        unfold Hid
        have hR : resOk l[k] = (b1 && b2 && (b3 || b4)) := by unfold resOk; rw [hb1, hb2, hb3, hb4]
        split
        · rename_i h; exact res_next hlt HO.out (by rw [hR, h])
        · rename_i h; exact res_bad hlt (by rw [hR]; simpa using h)
      have e2 : decide ((l[k].1.length : Int) > 40) = !b2 := by rw [← hb2, Bool.eq_iff_iff]; simp <;> omega
      have e3 : (l[k].2 != 0) = !b3 := by rw [← hb3]; rfl
      have e4 := nil_b hb4
      clear hcell1 hcell2 hat HO hx hb1 hb2 hb3 hb4
      generalize l[k] = x at s1 s2 HC HBA hxl e2 e3 e4
      obtain ⟨x1, x2⟩ := x
      simp only at s1 s2 HC HBA hxl e2 e3 e4
      rcases b1 with _ | _
      · clear e2 e3 e4
        go_wp2_with fail
        refine (HC.out _).mono ?_
        rintro e w1 ⟨rfl, rfl⟩
        go_wp2_with fail
        go_ret
        exact ⟨ret_bool (by have := HS.out; simpa using this.symm), HBA.out⟩
      · rcases b2 with _ | _
        · simp only [Bool.not_false] at e2
          clear e3 e4
          go_wp2_with fail
          refine (HC.out _).mono ?_
          rintro e w1 ⟨rfl, rfl⟩
          go_wp2_with fail
          go_ret
          exact ⟨ret_bool (by have := HS.out; simpa using this.symm), HBA.out⟩
        · simp only [Bool.not_true] at e2
          rcases b3 with _ | _
          · simp only [Bool.not_false] at e3
            rcases b4 with _ | _
            · go_wp2_with fail
              refine (HC.out _).mono ?_
              rintro e w1 ⟨rfl, rfl⟩
              go_wp2_with fail
              go_ret
              exact ⟨ret_bool (by have := HS.out; simpa using this.symm), HBA.out⟩
            · go_wp2_with fail
              refine (HC.out _).mono ?_
              rintro e w1 ⟨rfl, rfl⟩
              go_wp2_with fail
              go_roundw
              case rel => exact ⟨k + 1, by omega, by go_num, HBA, by have := HS.out; simpa [Hid] using this⟩
              case measure => simp [intOf]; omega
          · simp only [Bool.not_true] at e3
            clear e4
            go_wp2_with fail
            refine (HC.out _).mono ?_
            rintro e w1 ⟨rfl, rfl⟩
            go_wp2_with fail
            go_roundw
            case rel => exact ⟨k + 1, by omega, by go_num, HBA, by have := HS.out; simpa [Hid] using this⟩
            case measure => simp [intOf]; omega
    · have HT : Hid (resA l = decide (l.length ≤ 10)) := res_end (by omega) HO.out
      clear HO hat hx
      go_wp2_with fail
      go_ret
      refine ⟨?_, HB.out⟩
      rw [HT.out]
      show Ending.returned (.bool (decide ((l.length : Int) ≤ 10))) = _
      congr 2
      simp only [decide_eq_decide]
      omega

theorem specResults_b {l : List ResT} {b : Bool} (h : resA l = b) (v : Value) (w : World) (hrow : RowR w v l) (hx : ∀ f ∈ l, f.1.length ≤ maxLen) : Calls Tryz.prog 105 #[v] w (BoolPost b w) := by
  have := specResults_any l v w hrow hx; rwa [h] at this

-- the program's
theorem longR_b {x : List UInt8} {b : Bool} (h : decide (x.length ≤ 40) = b) (w : World) (_hl : x.length ≤ maxLen) : Calls Tryz.prog 82 #[.string ⟨x.toArray⟩] w fun e w' => e = .returned (.bool (!b)) ∧ w = w' := by
  go_enter Tryz.func82, Tryz.ntmps82
  go_wp2
  go_ret
  refine ⟨?_, rfl⟩
  congr 2
  rw [← h]
  simp
  rw [Bool.eq_iff_iff]
  simp <;> omega

set_option maxHeartbeats 1000000 in
theorem noRes_b {o : ResT} {b : Bool} (h : resOk o = b) (w : World) (hx : o.1.length ≤ maxLen) :
    Calls Tryz.prog 111 #[resV o] w (BoolPost (!b) w) := by
  obtain ⟨t, n⟩ := o
  subst h
  unfold resV
  simp only at hx ⊢
  have HB := Lib.hid ((Below.refl w.heap.size w).alloc (Nat.le_refl _) (.cells #[.string ⟨t.toArray⟩, .int .i64 n] 75))
  obtain ⟨b2, hb2⟩ : ∃ b, decide (t.length ≤ 40) = b := ⟨_, rfl⟩
  have HC := Lib.hid (fun W => longR_b hb2 W hx)
  unfold maxLen at hx
  by_cases k0 : n = 0
  · subst k0
    have HT : Hid (resOk (t, 0) = b2) := by unfold resOk; rw [hb2]; simp [Hid]
    clear hb2
    go_enter Tryz.func111, Tryz.ntmps111
    go_wp2_with fail
    refine (HC.out _).mono ?_
    rintro e w1 ⟨rfl, rfl⟩
    go_wp2_with fail
    go_ret
    exact ⟨by rw [HT.out] <;> rfl, HB.out⟩
  have e0 : (n == 0) = false := by simpa using k0
  obtain ⟨b4, hb4⟩ : ∃ b, decide (t = []) = b := ⟨_, rfl⟩
  have e4 := nil_b hb4
  have hle : b4 = true → b2 = true := by rintro rfl; rw [← hb2]; have := of_decide_eq_true hb4; rw [this]; rfl
  by_cases k12 : n = 1 ∨ n = 2
  · have HT : Hid (resOk (t, n) = b4) := by
      unfold resOk; rw [hb2, hb4]
      rcases k12 with rfl | rfl <;> (cases b4 <;> simp_all [Hid])
    clear hb2 hb4 hle HC e0 k0
    rcases k12 with rfl | rfl <;> rcases b4 with _ | _ <;>
      (go_enter Tryz.func111, Tryz.ntmps111
       go_wp2_with fail
       go_ret
       exact ⟨by rw [HT.out] <;> rfl, HB.out⟩)
  · have HT : Hid (resOk (t, n) = false) := by
      unfold resOk Hid
      have : (decide (0 ≤ n) && decide (n ≤ 2)) = false := by simp; omega
      rw [this]; rfl
    have e1 : (n != 1) = true := by simp; omega
    have e2 : (n != 2) = true := by simp; omega
    clear hb2 hb4 hle HC k0 e4 k12
    go_enter Tryz.func111, Tryz.ntmps111
    go_wp2_with fail
    go_ret
    exact ⟨by rw [HT.out] <;> rfl, HB.out⟩

/-- Whether one is none. -/
def noneL (l : List ResT) : Bool := l.any (fun r => !resOk r)
theorem none_at {l : List ResT} {k : Nat} (h : k < l.length) (hx : resOk l[k] = false) : noneL l = true := by
  rw [noneL, List.any_eq_true]
  exact ⟨l[k], List.getElem_mem h, by simp [hx]⟩
theorem none_all {l : List ResT} (h : l.all resOk = true) : noneL l = false := by
  rw [noneL, List.any_eq_false]
  intro x hm
  have := List.all_eq_true.1 h x hm
  simp [this]

set_option maxRecDepth 20000 in
set_option maxHeartbeats 2000000 in
theorem index_anyR (l : List ResT) (v : Value) (w : World) (hrow : RowR w v l) (hx : ∀ f ∈ l, f.1.length ≤ maxLen) :
    Calls Tryz.prog 158 #[v, .func (.func 111) #[] #[]] w fun e w' => ∃ i : Int, e = .returned (.int .i64 i) ∧ (0 ≤ i ↔ noneL l = true) ∧ Below w.heap.size w w' := by
  obtain ⟨a, cap, rfl, hc1, hc2, hat⟩ := hrow.res
  clear hrow
  unfold maxLen at hc2
  go_enter Tryz.func158, Tryz.ntmps158
  go_wp2_with fail
  go_loopw [8] (fun i wr => ∃ k : Nat, k ≤ l.length ∧ i = .int .i64 k ∧ Hid (Below w.heap.size w wr) ∧ Hid ((l.take k).all resOk = true)) (fun i _ => l.length - (intOf i).toNat)
  case atStart => exact ⟨0, Nat.zero_le _, by go_num, Below.refl _ _, by simp [Hid]⟩
  case round =>
    obtain ⟨k, hk, rfl, HB, HO⟩ := hrel
    by_cases hlt : k < l.length
    · obtain ⟨g, o, rfl, hg, hcell1, hcell2⟩ := hat k hlt
      have s1 := (HB.out.cell (p := ⟨g, o + k * 2, none⟩) hg).trans hcell1
      have s2 := (HB.out.cell (p := ⟨g, o + k * 2 + 1, none⟩) hg).trans hcell2
      have hxl := hx l[k] (List.getElem_mem hlt)
      have hltz : (k : Int) < (l.length : Int) := by omega
      obtain ⟨b, hbE⟩ : ∃ b, resOk l[k] = b := ⟨_, rfl⟩
      have HC := Lib.hid (fun W => noRes_b hbE W hxl)
      rcases b with _ | _
      · have HS := Lib.hid (none_at hlt hbE)
        clear hcell1 hcell2 hat HO hx hxl hbE
        generalize l[k] = x at s1 s2 HC
        obtain ⟨x1, x2⟩ := x
        unfold resV at HC
        simp only at s1 s2 HC
        go_wp2_with (go_at_call 111; refine (HC.out _).mono ?_; rintro e w1 ⟨rfl, hb1⟩; have HB1 := Lib.hid (bthR HB.out hb1); clear hb1)
        go_ret
        exact ⟨(k : Int), rfl, by rw [HS.out]; simp, HB1.out⟩
      · have HS := Lib.hid (res_next hlt HO.out hbE)
        clear hcell1 hcell2 hat HO hx hxl hbE
        generalize l[k] = x at s1 s2 HC
        obtain ⟨x1, x2⟩ := x
        unfold resV at HC
        simp only at s1 s2 HC
        go_wp2_with (go_at_call 111; refine (HC.out _).mono ?_; rintro e w1 ⟨rfl, hb1⟩; have HB1 := Lib.hid (bthR HB.out hb1); clear hb1)
        go_roundw
        case rel => exact ⟨k + 1, by omega, by go_num, HB1, HS⟩
        case measure => simp [intOf]; omega
    · have HS : Hid (noneL l = false) := none_all (by have := HO.out; rwa [List.take_of_length_le (by omega)] at this)
      have hltz : ¬ ((k : Int) < (l.length : Int)) := by omega
      clear hat HO hx
      go_wp2_with fail
      go_ret
      exact ⟨-1, rfl, by rw [HS.out]; simp, HB.out⟩

set_option maxRecDepth 20000 in
set_option maxHeartbeats 1000000 in
theorem contains_anyR (l : List ResT) (v : Value) (w : World) (hrow : RowR w v l) (hx : ∀ f ∈ l, f.1.length ≤ maxLen) :
    Calls Tryz.prog 141 #[v, .func (.func 111) #[] #[]] w (BoolPost (noneL l) w) := by
  have HC := Lib.hid (index_anyR l v w hrow hx)
  clear hrow hx
  go_enter Tryz.func141, Tryz.ntmps141
  go_wp2_with fail
  refine HC.out.mono ?_
  rintro e w1 ⟨i, rfl, hi, hb1⟩
  have HI := Lib.hid hi
  have HB1 := Lib.hid hb1
  clear hi HC hb1
  go_wp2_with fail
  go_ret
  refine ⟨?_, HB1.out⟩
  show Ending.returned (.bool (decide (0 ≤ i))) = _
  congr 2
  rw [Bool.eq_iff_iff, decide_eq_true_eq]
  exact HI.out
theorem contains_bR {l : List ResT} {b : Bool} (h : noneL l = b) (v : Value) (w : World) (hrow : RowR w v l) (hx : ∀ f ∈ l, f.1.length ≤ maxLen) :
    Calls Tryz.prog 141 #[v, .func (.func 111) #[] #[]] w (BoolPost b w) := by
  have := contains_anyR l v w hrow hx; rwa [h] at this
theorem resA_is (l : List ResT) : resA l = (decide (l.length ≤ 10) && !noneL l) := by
  unfold resA
  rcases h : l.all resOk with _ | _
  · obtain ⟨x, hm, hx⟩ := List.all_eq_false.1 h
    have : noneL l = true := by rw [noneL, List.any_eq_true]; exact ⟨x, hm, by simpa using hx⟩
    rw [this]; rfl
  · rw [none_all h]; rfl

set_option maxRecDepth 20000 in
set_option maxHeartbeats 1000000 in
theorem areRes_b {l : List ResT} {b : Bool} (h : resA l = b) (v : Value) (w : World) (hrow : RowR w v l) (hx : ∀ f ∈ l, f.1.length ≤ maxLen) :
    Calls Tryz.prog 121 #[v] w (BoolPost b w) := by
  rw [resA_is] at h
  obtain ⟨c, hc⟩ : ∃ c, noneL l = c := ⟨_, rfl⟩
  have HC := Lib.hid (contains_bR hc v w hrow hx)
  obtain ⟨a, cap, rfl, hc1, hc2, _⟩ := hrow.res
  rw [hc] at h
  clear hrow hx hc
  unfold maxLen at hc2
  by_cases h10 : l.length ≤ 10
  · have hd : decide ((l.length : Int) ≤ 10) = true := by simp; omega
    have HT : Hid (b = !c) := by rw [← h, decide_eq_true h10]; rfl
    clear h h10
    go_enter Tryz.func121, Tryz.ntmps121
    go_wp2_with fail
    refine HC.out.mono ?_
    rintro e w1 ⟨rfl, hb1⟩
    have HB1 := Lib.hid hb1
    clear hb1 HC
    go_wp2_with fail
    go_ret
    exact ⟨by rw [HT.out] <;> rfl, HB1.out⟩
  · have hd : decide ((l.length : Int) ≤ 10) = false := by simp; omega
    have HT : Hid (b = false) := by rw [← h, decide_eq_false h10]; rfl
    clear h h10 HC
    go_enter Tryz.func121, Tryz.ntmps121
    go_wp2_with fail
    go_ret
    exact ⟨by rw [HT.out] <;> rfl, Below.refl _ _⟩

end Go.Proofs.YtgolhfmmlanmlaaGreatDoor

/- Walks: the law that those that failed are told alike. -/
namespace Go.Proofs.YtgolhfmmlanmlaaGreatDoor
open Go.RowKit Pth

/-- The law says yes, and nothing that lay there has turned. -/
def YesW (w : World) (e : Ending) (w' : World) : Prop := e = .returned (.bool true) ∧ Below w.heap.size w w'
theorem failA_short (l : List ResT) : (failA l).length ≤ 10 := by
  unfold failA
  split
  · rename_i h
    have := (resA_small h).1
    have := failK_len l l.length
    omega
  · simp
/-- A list that another list's block is no part of. -/
theorem own_besideR {w w' : World} {B1 e n : Nat} {v u : Value} {xs : List Value} (h : w.ownsRow B1 e 1 v n xs) (hg : w.grownBy w' u.ownBlock) (hu : ∀ k, u.ownBlock = some k → k < B1) : w'.ownsRow B1 e 1 v n xs := by
  refine h.kept hg ?_
  rcases hv : v.ownBlock with _ | k
  · exact .inl rfl
  · refine .inr (fun e => ?_)
    have h1 := (h.lt k hv).1
    have h2 := hu k e.symm
    omega
end Go.Proofs.YtgolhfmmlanmlaaGreatDoor

/- Walks: whether there is such a task, where it stands. -/
namespace Go.Proofs.YtgolhfmmlanmlaaGreatDoor
open Go.RowKit Pth

/-- There is such a task, in a good graph. -/
noncomputable def taskG (ls : List (List Int)) (l : List Int) (k : Int) : Bool := goodG ls l && (decide (0 ≤ k) && decide (k < (ls.length : Int)))
theorem taskG_yes {ls : List (List Int)} {l : List Int} {k : Int} (h : taskG ls l k = true) : GoodG ls l ∧ 0 ≤ k ∧ k < (ls.length : Int) := by
  unfold taskG at h
  simp only [Bool.and_eq_true, decide_eq_true_eq] at h
  exact ⟨goodG_iff.1 h.1, h.2⟩
theorem taskG_good {ls : List (List Int)} {l : List Int} {k : Int} (h : goodG ls l = false) : taskG ls l k = false := by unfold taskG; rw [h]; rfl
theorem taskG_in {ls : List (List Int)} {l : List Int} {k : Int} (h : goodG ls l = true) : taskG ls l k = (decide (0 ≤ k) && decide (k < (ls.length : Int))) := by unfold taskG; rw [h]; rfl

theorem l1In_task {k : Int} {n : Nat} {w : World} {b : Bool} (h : (decide (0 ≤ k) && decide (k < (n : Int))) = b) :
    Calls Tryz.prog 124 #[.int .i64 k, .int .i64 0, .int .i64 ((n : Int) - 1)] w fun e w' => e = .returned (.bool b) ∧ w = w' := by
  have e : (decide (0 ≤ k) && decide (k ≤ (n : Int) - 1)) = b := by rw [← h, Bool.eq_iff_iff]; simp; omega
  have := l1In_any k 0 ((n : Int) - 1) w
  rw [e] at this
  exact this

/-- Where a task stands, and whether there is such a one. -/
noncomputable def placeA (ls : List (List Int)) (l : List Int) (k : Int) : Int := if taskG ls l k then placeI l k else 0
def PlacePost (ls : List (List Int)) (l : List Int) (k : Int) (w : World) (e : Ending) (w' : World) : Prop := e = .returned (.tuple #[.int .i64 (placeA ls l k), .bool (taskG ls l k)]) ∧ Below w.heap.size w w'

end Go.Proofs.YtgolhfmmlanmlaaGreatDoor

/- Plain mathematics of ways of needs: how far, by a queue and along the order; no program. -/
namespace Go.Proofs.YtgolhfmmlanmlaaGreatDoor
namespace Pth

/-- What a task needs. -/
def needsAt (ls : List (List Int)) (k : Int) : List Int := ls.getD k.toNat []
theorem needsAt_get {ls : List (List Int)} {k : Nat} (hk : k < ls.length) : needsAt ls k = ls[k] := by
  unfold needsAt; simp [hk]
/-- So many needs lead from a task to t. -/
def Way (ls : List (List Int)) (t : Int) : Nat → Int → Prop
  | 0, k => k = t
  | m + 1, k => ∃ x ∈ needsAt ls k, Way ls t m x
/-- How many at least, -1 for none. -/
def IsFar (ls : List (List Int)) (t k d : Int) : Prop := (∃ m : Nat, d = m ∧ Way ls t m k ∧ ∀ j, j < m → ¬ Way ls t j k) ∨ (d = -1 ∧ ∀ m, ¬ Way ls t m k)
theorem far_exists (ls : List (List Int)) (t k : Int) : ∃ d, IsFar ls t k d := by
  rcases Classical.em (∃ m, Way ls t m k) with ⟨m, hm⟩ | h
  · induction m using Nat.strongRecOn with
    | ind m ih =>
      rcases Classical.em (∃ j, j < m ∧ Way ls t j k) with ⟨j, hj, hw⟩ | h
      · exact ih j hj hw
      · exact ⟨m, .inl ⟨m, rfl, hm, fun j hj hw => h ⟨j, hj, hw⟩⟩⟩
  · exact ⟨-1, .inr ⟨rfl, fun m hm => h ⟨m, hm⟩⟩⟩
theorem far_one {ls : List (List Int)} {t k d e : Int} (h : IsFar ls t k d) (h' : IsFar ls t k e) : d = e := by
  rcases h with ⟨m, rfl, h1, h2⟩ | ⟨rfl, h1⟩ <;> rcases h' with ⟨m', rfl, h1', h2'⟩ | ⟨rfl, h1'⟩
  · rcases Nat.lt_trichotomy m m' with h | h | h
    · exact absurd h1 (h2' m h)
    · rw [h]
    · exact absurd h1' (h2 m' h)
  · exact absurd h1 (h1' m)
  · exact absurd h1' (h1 m')
  · rfl
noncomputable def farI (ls : List (List Int)) (t k : Int) : Int := Classical.choose (far_exists ls t k)
theorem farI_is (ls : List (List Int)) (t k : Int) : IsFar ls t k (farI ls t k) := Classical.choose_spec (far_exists ls t k)
theorem farI_eq {ls : List (List Int)} {t k d : Int} (h : IsFar ls t k d) : farI ls t k = d := far_one (farI_is ls t k) h
theorem farI_low (ls : List (List Int)) (t k : Int) : -1 ≤ farI ls t k := by
  rcases farI_is ls t k with ⟨m, h, _⟩ | ⟨h, _⟩ <;> omega
theorem farI_self (ls : List (List Int)) (t : Int) : farI ls t t = 0 := farI_eq (.inl ⟨0, rfl, rfl, fun j hj => by omega⟩)
theorem farI_zero {ls : List (List Int)} {t k : Int} (h : farI ls t k = 0) : k = t := by
  rcases farI_is ls t k with ⟨m, hm, h1, _⟩ | ⟨hm, _⟩
  · have : m = 0 := by omega
    subst this; exact h1
  · omega
theorem farI_le {ls : List (List Int)} {t k : Int} {m : Nat} (h : Way ls t m k) : 0 ≤ farI ls t k ∧ farI ls t k ≤ m := by
  rcases farI_is ls t k with ⟨j, hj, h1, h2⟩ | ⟨_, h1⟩
  · rcases Nat.lt_or_ge m j with h' | h'
    · exact absurd h (h2 m h')
    · omega
  · exact absurd h (h1 m)
theorem farI_way {ls : List (List Int)} {t k : Int} (h : 0 ≤ farI ls t k) : Way ls t (farI ls t k).toNat k := by
  rcases farI_is ls t k with ⟨j, hj, h1, h2⟩ | ⟨h', _⟩
  · rw [hj]; exact h1
  · omega
/-- The next one on a shortest way. -/
theorem far_next {ls : List (List Int)} {t k : Int} {m : Nat} (h : farI ls t k = (m : Int) + 1) : ∃ x ∈ needsAt ls k, farI ls t x = m := by
  have hw := farI_way (ls := ls) (t := t) (k := k) (by omega)
  rw [h, show ((m : Int) + 1).toNat = m + 1 by omega] at hw
  obtain ⟨x, hx, hxw⟩ := hw
  refine ⟨x, hx, ?_⟩
  have h1 := farI_le hxw
  by_cases h' : farI ls t x < m
  · have h2 := farI_way h1.1
    have h3 : Way ls t ((farI ls t x).toNat + 1) k := ⟨x, hx, h2⟩
    have h4 := farI_le h3
    omega
  · omega
theorem far_edge {ls : List (List Int)} {t k x : Int} (hx : x ∈ needsAt ls k) (h : 0 ≤ farI ls t x) : 0 ≤ farI ls t k ∧ farI ls t k ≤ farI ls t x + 1 := by
  have h3 : Way ls t ((farI ls t x).toNat + 1) k := ⟨x, hx, farI_way h⟩
  have h4 := farI_le h3
  omega

/-- The next ones least. -/
noncomputable def nextI (ls : List (List Int)) (t k : Int) : Int := ((needsAt ls k).find? (fun x => decide (farI ls t x = farI ls t k - 1))).getD t
noncomputable def wayL (ls : List (List Int)) (t : Int) : Nat → Int → List Int
  | 0, k => [k]
  | m + 1, k => k :: wayL ls t m (nextI ls t k)
theorem next_at {ls : List (List Int)} {t k : Int} {j : Nat} (hj : j < (needsAt ls k).length) (h : ∀ i (hi : i < j), farI ls t (needsAt ls k)[i] ≠ farI ls t k - 1) (he : farI ls t (needsAt ls k)[j] = farI ls t k - 1) : nextI ls t k = (needsAt ls k)[j] := by
  have : (needsAt ls k).find? (fun x => decide (farI ls t x = farI ls t k - 1)) = some (needsAt ls k)[j] := by
    rw [List.find?_eq_some_iff_getElem]
    refine ⟨by simpa using he, j, hj, rfl, fun i hi => ?_⟩
    have := h i hi
    simpa using this
  unfold nextI
  rw [this]; rfl
theorem next_far {ls : List (List Int)} {t k : Int} {m : Nat} (h : farI ls t k = (m : Int) + 1) : farI ls t (nextI ls t k) = m ∧ nextI ls t k ∈ needsAt ls k := by
  obtain ⟨x, hx, hf⟩ := far_next h
  have : ((needsAt ls k).find? (fun x => decide (farI ls t x = farI ls t k - 1))).isSome = true := by
    rw [List.find?_isSome]
    exact ⟨x, hx, by simp; omega⟩
  obtain ⟨y, hy⟩ := Option.isSome_iff_exists.1 this
  have h1 := List.find?_some hy
  have h2 := List.mem_of_find?_eq_some hy
  simp only [decide_eq_true_eq] at h1
  unfold nextI
  rw [hy]
  exact ⟨by simp only [Option.getD_some]; omega, h2⟩
theorem wayL_len (ls : List (List Int)) (t : Int) (m : Nat) (k : Int) : (wayL ls t m k).length = m + 1 := by
  induction m generalizing k with
  | zero => rfl
  | succ m ih => rw [wayL, List.length_cons, ih]

/-- What the queue keeps while one is looked at: those that are behind it, those that are left. -/
structure Spread (ls : List (List Int)) (t : Int) (out : List Int) (all : List Int) : Prop where
  len : out.length = ls.length
  self : t ∈ all ∧ out.getD t.toNat (-1) = 0
  sound : ∀ k : Nat, k < ls.length → (out.getD k (-1) = -1 ∧ (k : Int) ∉ all) ∨ (0 ≤ out.getD k (-1) ∧ (k : Int) ∈ all ∧ Way ls t (out.getD k (-1)).toNat k)
  range : ∀ k ∈ all, 0 ≤ k ∧ k < (ls.length : Int)
  nodup : all.Nodup
/-- How far by the list so far. -/
def at' (out : List Int) (k : Int) : Int := out.getD k.toNat (-1)
structure Front (ls : List (List Int)) (t : Int) (out : List Int) (done queue : List Int) : Prop where
  spread : Spread ls t out (done ++ queue)
  sorted : queue.Pairwise (fun a b => at' out a ≤ at' out b)
  near : ∀ q r, queue = q :: r → ∀ p ∈ done ++ queue, at' out p ≤ at' out q + 1
  closed : ∀ x ∈ done, ∀ k : Nat, (hk : k < ls.length) → x ∈ ls[k] → (k : Int) ∈ done ++ queue ∧ at' out k ≤ at' out x + 1
structure Inner (ls : List (List Int)) (t : Int) (out : List Int) (done : List Int) (x : Int) (d : Int) (queue us : List Int) : Prop where
  spread : Spread ls t out (done ++ x :: queue)
  dist : at' out x = d
  d0 : 0 ≤ d
  sorted : queue.Pairwise (fun a b => at' out a ≤ at' out b)
  least : ∀ q ∈ queue, d ≤ at' out q
  near : ∀ p ∈ done ++ x :: queue, at' out p ≤ d + 1
  closed : ∀ y ∈ done, ∀ k : Nat, (hk : k < ls.length) → y ∈ ls[k] → (k : Int) ∈ done ++ x :: queue ∧ at' out k ≤ at' out y + 1
  seen : ∀ k ∈ us, k ∈ done ++ x :: queue

theorem at_start {n : Nat} {t : Nat} (ht : t < n) (k : Nat) (hk : k < n) : ((List.replicate n (-1 : Int)).set t 0).getD k (-1) = if k = t then 0 else -1 := by
  rw [List.getD_eq_getElem?_getD, List.getElem?_set]
  by_cases h : t = k
  · subst h; simp [ht]
  · rw [if_neg h, if_neg (fun e => h e.symm)]; simp [hk]
theorem Front.start {ls : List (List Int)} {t : Nat} (ht : t < ls.length) : Front ls t ((List.replicate ls.length (-1)).set t 0) [] [(t : Int)] := by
  refine ⟨⟨by simp, ⟨by simp, ?_⟩, fun k hk => ?_, fun k hk => ?_, by simp⟩, by simp, fun q r h p hp => ?_, by simp⟩
  · rw [show ((t : Int)).toNat = t by omega, at_start ht t ht, if_pos rfl]
  · rw [at_start ht k hk]
    by_cases h : k = t
    · subst h; rw [if_pos rfl]; exact .inr ⟨by omega, by simp, rfl⟩
    · rw [if_neg h]; exact .inl ⟨rfl, by simp; omega⟩
  · simp at hk; omega
  · simp only [List.nil_append, List.mem_singleton] at hp
    injection h with h1 h2
    rw [hp, ← h1]; omega
theorem Front.open {ls : List (List Int)} {t : Int} {out done queue : List Int} {x : Int} (h : Front ls t out done (x :: queue)) : Inner ls t out done x (at' out x) queue [] := by
  have hx := h.spread.range x (by simp)
  have h2 := List.pairwise_cons.1 h.sorted
  refine ⟨h.spread, rfl, ?_, h2.2, fun q hq => h2.1 q hq, fun p hp => h.near x queue rfl p hp, h.closed, by simp⟩
  rcases h.spread.sound x.toNat (by omega) with h3 | h3
  · rw [show ((x.toNat : Nat) : Int) = x by omega] at h3; exact absurd (by simp) h3.2
  · exact h3.1
theorem Inner.close {ls : List (List Int)} {t : Int} {out done queue us : List Int} {x d : Int} (h : Inner ls t out done x d queue us) (hus : ∀ k : Nat, (hk : k < ls.length) → x ∈ ls[k] → (k : Int) ∈ us) : Front ls t out (done ++ [x]) queue := by
  have e : done ++ [x] ++ queue = done ++ x :: queue := by simp
  refine ⟨by rw [e]; exact h.spread, h.sorted, fun q r hq p hp => ?_, fun y hy k hk hm => ?_⟩
  · rw [e] at hp
    have h1 := h.near p hp
    have h2 := h.least q (by rw [hq]; simp)
    omega
  · rw [e]
    rw [List.mem_append, List.mem_singleton] at hy
    rcases hy with hy | rfl
    · exact h.closed y hy k hk hm
    · have := h.seen k (hus k hk hm)
      exact ⟨this, by have := h.near k this; rw [h.dist]; exact this⟩
theorem Inner.skip {ls : List (List Int)} {t : Int} {out done queue us : List Int} {x d : Int} {k : Nat} (h : Inner ls t out done x d queue us) (hk : k < ls.length) (hs : ¬ at' out k < 0) : Inner ls t out done x d queue (us ++ [(k : Int)]) := by
  refine ⟨h.spread, h.dist, h.d0, h.sorted, h.least, h.near, h.closed, fun j hj => ?_⟩
  rw [List.mem_append, List.mem_singleton] at hj
  rcases hj with hj | rfl
  · exact h.seen j hj
  · rcases h.spread.sound k hk with h1 | h1
    · exact absurd (show at' out k < 0 by unfold at'; rw [show ((k : Int)).toNat = k by omega, h1.1]; omega) hs
    · exact h1.2.1
theorem set_at {out : List Int} {k j : Nat} {e : Int} (hk : k < out.length) : (out.set k e).getD j (-1) = if j = k then e else out.getD j (-1) := by
  rw [List.getD_eq_getElem?_getD, List.getElem?_set, List.getD_eq_getElem?_getD]
  by_cases h : k = j
  · subst h; simp [hk]
  · rw [if_neg h, if_neg (fun e => h e.symm)]
theorem Inner.put {ls : List (List Int)} {t : Int} {out done queue us : List Int} {x d : Int} {k : Nat} (h : Inner ls t out done x d queue us) (hk : k < ls.length) (hm : x ∈ ls[k]) (hs : at' out k < 0) :
    Inner ls t (out.set k (d + 1)) done x d (queue ++ [(k : Int)]) (us ++ [(k : Int)]) := by
  have hkl : k < out.length := by rw [h.spread.len]; exact hk
  have hno : (k : Int) ∉ done ++ x :: queue := by
    rcases h.spread.sound k hk with h1 | h1
    · exact h1.2
    · exact absurd h1.1 (by unfold at' at hs; rw [show ((k : Int)).toNat = k by omega] at hs; omega)
  have e : done ++ x :: (queue ++ [(k : Int)]) = (done ++ x :: queue) ++ [(k : Int)] := by simp
  have same : ∀ p ∈ done ++ x :: queue, at' (out.set k (d + 1)) p = at' out p := by
    intro p hp
    have hr := h.spread.range p hp
    unfold at'
    rw [set_at hkl, if_neg]
    intro he
    exact hno (by rw [← he, show ((p.toNat : Nat) : Int) = p by omega]; exact hp)
  have new : at' (out.set k (d + 1)) k = d + 1 := by
    unfold at'
    rw [show ((k : Int)).toNat = k by omega, set_at hkl, if_pos rfl]
  have hx := h.spread.range x (by simp)
  have hway : Way ls t d.toNat x := by
    rcases h.spread.sound x.toNat (by omega) with h1 | h1
    · rw [show ((x.toNat : Nat) : Int) = x by omega] at h1; exact absurd (by simp) h1.2
    · have := h1.2.2
      rw [show ((x.toNat : Nat) : Int) = x by omega] at this
      have hd := h.dist
      unfold at' at hd
      rw [hd] at this; exact this
  have d0 := h.d0
  refine ⟨⟨by rw [List.length_set]; exact h.spread.len, ⟨by rw [e]; exact List.mem_append.2 (.inl h.spread.self.1), ?_⟩, fun j hj => ?_, fun j hj => ?_, ?_⟩, by rw [same x (by simp)]; exact h.dist, d0, ?_, fun q hq => ?_, fun p hp => ?_, fun y hy j hj hym => ?_, fun j hj => ?_⟩
  · have := same t h.spread.self.1
    unfold at' at this
    rw [this]; exact h.spread.self.2
  · rw [e, set_at hkl]
    by_cases hjk : j = k
    · subst hjk
      rw [if_pos rfl]
      refine .inr ⟨by omega, by simp, ?_⟩
      rw [show (d + 1).toNat = d.toNat + 1 by omega]
      exact ⟨x, by rw [needsAt_get hj]; exact hm, hway⟩
    · rw [if_neg hjk]
      rcases h.spread.sound j hj with h1 | h1
      · exact .inl ⟨h1.1, by rw [List.mem_append, List.mem_singleton]; rintro (h2 | h2); exact h1.2 h2; omega⟩
      · exact .inr ⟨h1.1, List.mem_append.2 (.inl h1.2.1), h1.2.2⟩
  · rw [e, List.mem_append, List.mem_singleton] at hj
    rcases hj with hj | rfl
    · exact h.spread.range j hj
    · omega
  · rw [e, List.nodup_append]
    refine ⟨h.spread.nodup, by simp, fun a ha b hb => ?_⟩
    rw [List.mem_singleton] at hb
    rintro rfl
    exact hno (by rw [← hb]; exact ha)
  · rw [List.pairwise_append]
    refine ⟨h.sorted.imp_of_mem (fun ha hb hab => by rw [same _ (by simp [ha]), same _ (by simp [hb])]; exact hab), by simp, fun a ha b hb => ?_⟩
    rw [List.mem_singleton] at hb
    rw [hb, new, same a (by simp [ha])]
    exact h.near a (by simp [ha])
  · rw [List.mem_append, List.mem_singleton] at hq
    rcases hq with hq | rfl
    · rw [same q (by simp [hq])]; exact h.least q hq
    · rw [new]; omega
  · rw [e, List.mem_append, List.mem_singleton] at hp
    rcases hp with hp | rfl
    · rw [same p hp]; exact h.near p hp
    · rw [new]; omega
  · obtain ⟨h1, h2⟩ := h.closed y hy j hj hym
    rw [e, same _ h1, same y (by simp [hy])]
    exact ⟨List.mem_append.2 (.inl h1), h2⟩
  · rw [e, List.mem_append]
    rw [List.mem_append] at hj
    rcases hj with hj | hj
    · exact .inl (h.seen j hj)
    · exact .inr hj
/-- Where the queue is empty, all is known. -/
theorem Front.done {ls : List (List Int)} {t : Int} {out done : List Int} (hin : ∀ k (hk : k < ls.length), ∀ x ∈ ls[k], 0 ≤ x ∧ x < (ls.length : Int)) (h : Front ls t out done []) : out = (upto ls.length).map (farI ls t) := by
  have hle : ∀ m : Nat, ∀ k : Nat, k < ls.length → Way ls t m k → 0 ≤ out.getD k (-1) ∧ out.getD k (-1) ≤ m := by
    intro m
    induction m with
    | zero =>
      intro k hk hw
      have : (k : Int) = t := hw
      have h1 := h.spread.self.2
      rw [← this, show ((k : Int)).toNat = k by omega] at h1
      rw [h1]; omega
    | succ m ih =>
      intro k hk hw
      obtain ⟨x, hx, hxw⟩ := hw
      rw [needsAt_get hk] at hx
      have hxr := hin k hk x hx
      have hxe : ((x.toNat : Nat) : Int) = x := by omega
      have h1 := ih x.toNat (by omega) (by rw [hxe]; exact hxw)
      have h2 : x ∈ done := by
        rcases h.spread.sound x.toNat (by omega) with h3 | h3
        · omega
        · have := h3.2.1; rw [hxe, List.append_nil] at this; exact this
      obtain ⟨h3, h4⟩ := h.closed x h2 k hk hx
      unfold at' at h4
      rw [show ((k : Int)).toNat = k by omega] at h4
      rcases h.spread.sound k hk with h5 | h5
      · exact absurd h3 h5.2
      · omega
  apply List.ext_getElem (by rw [h.spread.len, List.length_map, upto_len])
  intro k h1 h2
  have hk : k < ls.length := by rw [h.spread.len] at h1; exact h1
  rw [List.getElem_map, upto_get]
  symm
  apply farI_eq
  have hg : out.getD k (-1) = out[k] := by rw [List.getD_eq_getElem?_getD, List.getElem?_eq_getElem h1]; rfl
  rcases h.spread.sound k hk with h3 | h3
  · refine .inr ⟨by rw [← hg]; exact h3.1, fun m hw => ?_⟩
    have := hle m k hk hw
    omega
  · refine .inl ⟨(out.getD k (-1)).toNat, by rw [← hg]; omega, h3.2.2, fun j hj hw => ?_⟩
    have := hle j k hk hw
    omega
theorem Front.room {ls : List (List Int)} {t : Int} {out done queue : List Int} (h : Front ls t out done queue) : done.length + queue.length ≤ ls.length := by
  have := nodup_sub (a := done ++ queue) (b := upto ls.length) h.spread.nodup (fun x hx => mem_upto.2 (h.spread.range x hx))
  rw [upto_len, List.length_append] at this
  exact this
end Pth
end Go.Proofs.YtgolhfmmlanmlaaGreatDoor

/- Walks: what blocks a task, and what goes into it, of the reference and of the program. -/
namespace Go.Proofs.YtgolhfmmlanmlaaGreatDoor
open Go.RowKit Pth

/-- A plan and results of it. -/
noncomputable def bothA (ls : List (List Int)) (l : List Int) (bs : List Bool) (rs : List (List OpT)) (m : List ResT) : Bool := planA ls l bs rs && (resA m && decide (m.length = bs.length))
noncomputable def inA (ls : List (List Int)) (l : List Int) (bs : List Bool) (rs : List (List OpT)) (m : List ResT) (t : Int) : Bool := bothA ls l bs rs m && (decide (0 ≤ t) && decide (t < (bs.length : Int)))
/-- The result of a task. -/
def resAt (m : List ResT) (t : Int) : ResT := m.getD t.toNat noRes
/-- The first of some that is not well. -/
def firstL (m : List ResT) (ns : List Int) : Int × Bool := match ns.find? (fun k => decide ((resAt m k).2 ≠ 0)) with | some k => (k, true) | none => (0, false)
noncomputable def blockA (ls : List (List Int)) (l : List Int) (bs : List Bool) (rs : List (List OpT)) (m : List ResT) (t : Int) : Int × Bool :=
  if inA ls l bs rs m t && decide ((resAt m t).2 = 2) then firstL m (needsAt ls t) else (0, false)
/-- What goes into a task. -/
def bodiesL (m : List ResT) (ns : List Int) : List (List UInt8) := ns.map (fun k => (resAt m k).1)
noncomputable def insA (ls : List (List Int)) (l : List Int) (bs : List Bool) (rs : List (List OpT)) (m : List ResT) (t : Int) : List (List UInt8) :=
  if inA ls l bs rs m t then bodiesL m (needsAt ls t) else []
theorem both_parts {ls : List (List Int)} {l : List Int} {bs : List Bool} {rs : List (List OpT)} {m : List ResT} (h : bothA ls l bs rs m = true) : planA ls l bs rs = true ∧ resA m = true ∧ m.length = bs.length := by
  unfold bothA at h
  simp only [Bool.and_eq_true, decide_eq_true_eq] at h
  exact ⟨h.1, h.2.1, h.2.2⟩
theorem resAt_nat {m : List ResT} {k : Nat} (h : k < m.length) : resAt m (k : Int) = m[k] := by
  unfold resAt; rw [Int.toNat_natCast, getD_at _ h]
theorem first_yes {m : List ResT} {ns : List Int} {k : Nat} (hk : k < ns.length) (ho : ∀ x ∈ ns.take k, (resAt m x).2 = 0) (h : (resAt m ns[k]).2 ≠ 0) : firstL m ns = (ns[k], true) := by
  have e : ns = ns.take k ++ ns[k] :: ns.drop (k + 1) := by rw [← List.drop_eq_getElem_cons hk, List.take_append_drop]
  have hf : ns.find? (fun k => decide ((resAt m k).2 ≠ 0)) = some ns[k] := by
    conv => lhs; rw [e]
    rw [List.find?_append, List.find?_eq_none.2 (by intro x hx; simp [ho x hx]), List.find?_cons_of_pos (by simpa using h)]
    rfl
  unfold firstL; rw [hf]
theorem first_no {m : List ResT} {ns : List Int} (ho : ∀ x ∈ ns, (resAt m x).2 = 0) : firstL m ns = (0, false) := by
  unfold firstL; rw [List.find?_eq_none.2 (by intro x hx; simp [ho x hx])]
theorem bodies_next {m : List ResT} {ns : List Int} {k : Nat} (hk : k < ns.length) : bodiesL m (ns.take (k + 1)) = bodiesL m (ns.take k) ++ [(resAt m ns[k]).1] := by
  unfold bodiesL; rw [List.take_succ_eq_append_getElem hk, List.map_append]; rfl
theorem bodies_len (m : List ResT) (ns : List Int) : (bodiesL m ns).length = ns.length := by simp [bodiesL]
theorem take_zero {m : List ResT} {ns : List Int} {k : Nat} (hk : k < ns.length) (ho : ∀ x ∈ ns.take k, (resAt m x).2 = 0) (h : (resAt m ns[k]).2 = 0) : ∀ x ∈ ns.take (k + 1), (resAt m x).2 = 0 := by
  intro x hx
  rw [List.take_succ_eq_append_getElem hk, List.mem_append, List.mem_singleton] at hx
  rcases hx with hx | rfl
  · exact ho x hx
  · exact h
theorem plan_task {ls : List (List Int)} {l : List Int} {bs : List Bool} {rs : List (List OpT)} (h : planA ls l bs rs = true) {k : Nat} (hk : k < ls.length) : ls[k].length ≤ 10 ∧ ∀ x ∈ ls[k], 0 ≤ x ∧ x < (ls.length : Int) := by
  have hg := (plan_parts h).1
  have hw := (hg.each k hk).1
  refine ⟨?_, fun x hx => ?_⟩
  · have := rise_len hw.1 hw.2 (by have := hg.low; omega)
    have := hg.high
    omega
  · have := hw.2 x hx
    omega
/-- A number and whether it stands. -/
def NumOk (r : Int × Bool) (w : World) (e : Ending) (w' : World) : Prop := e = .returned (.tuple #[.int .i64 r.1, .bool r.2]) ∧ Below w.heap.size w w'
/-- Texts and whether they stand. -/
def TextsOk (l : List (List UInt8)) (ok : Bool) (w : World) (e : Ending) (w' : World) : Prop :=
  ∃ v, e = .returned (.tuple #[v, .bool ok]) ∧ w'.ownsRow w.heap.size 9 1 v l.length (S l) ∧ Below w.heap.size w w'

set_option maxRecDepth 20000 in
set_option maxHeartbeats 4000000 in
theorem specBoth_b {ls : List (List Int)} {l : List Int} {bs : List Bool} {rs : List (List OpT)} {m : List ResT} {b : Bool} (h : bothA ls l bs rs m = b) (v u : Value) (w : World) (hp : PlanV w v ls l bs rs) (hr : RowR w u m) (hx : ∀ l ∈ rs, ∀ f ∈ l, f.2.2.length ≤ maxLen) (hxm : ∀ f ∈ m, f.1.length ≤ maxLen) :
    Calls Tryz.prog 95 #[v, u] w (BoolPost b w) := by
  have HV := Lib.hid hp
  have HR := Lib.hid hr
  obtain ⟨nv, ov, sv, rv, rfl, h1, h2, h3, h4⟩ := hp
  obtain ⟨as0, cs, rfl, hs1, hs2, _⟩ := h3.boolsW
  obtain ⟨an, cn, rfl, hn1, hn2, hatn⟩ := h1.lists
  obtain ⟨ao, co, rfl, ho1, ho2, _⟩ := h2.ints
  obtain ⟨ar, cr, rfl, hr1, hr2, _⟩ := h4.lists
  obtain ⟨am, cm, rfl, hm1, hm2, hatm⟩ := hr.res
  clear h1 h2 h3 h4 hr hatn hatm
  unfold maxLen at hs2 hn2 ho2 hr2 hm2
  obtain ⟨wa, hwa⟩ : ∃ wa, wa = w.alloc (.cells #[.slice an ls.length cn, .slice ao l.length co, .slice as0 bs.length cs, .slice ar rs.length cr] 42) := ⟨_, rfl⟩
  have hsz : w.heap.size < wa.heap.size := by rw [hwa]; simp
  have P0 : Hid (Blk4 wa w.heap.size 42 (.slice an ls.length cn) (.slice ao l.length co) (.slice as0 bs.length cs) (.slice ar rs.length cr)) := by rw [hwa]; exact Blk4.new
  have HA : Hid (Below w.heap.size w wa) := by rw [hwa]; exact (Below.refl w.heap.size w).alloc (Nat.le_refl _) _
  have HWA := Lib.hid hwa
  obtain ⟨a, ha⟩ : ∃ a, planA ls l bs rs = a := ⟨_, rfl⟩
  obtain ⟨c, hc⟩ : ∃ c, resA m = c := ⟨_, rfl⟩
  obtain ⟨d, hd⟩ : ∃ d, decide (m.length = bs.length) = d := ⟨_, rfl⟩
  have HT : Hid (b = (a && (c && d))) := by rw [← h]; unfold bothA; rw [ha, hc, hd]; rfl
  have HC := Lib.hid (specPlan_b ha _ wa (HV.out.below HA.out) hx)
  have HCR := Lib.hid (fun W (hb : Below w.heap.size w W) => specResults_b hc _ W (HR.out.below hb) hxm)
  have eb : ((m.length : Int) == (bs.length : Int)) = d := by rw [← hd, Bool.eq_iff_iff]; simp; omega
  obtain ⟨c0, c1, c2, c3⟩ := P0.out.cells
  clear hwa h ha hc hd hx hxm
  go_enter Tryz.func95, Tryz.ntmps95
  go_wp2_with fail
  rw [← HWA.out]
  refine HC.out.mono ?_
  rintro e w1 ⟨rfl, hb1⟩
  have HB1 := Lib.hid hb1
  have HW1 := Lib.hid (bth HA.out hb1 (Nat.le_refl _))
  clear hb1 c0 c1 c2 c3 HC
  obtain ⟨c0, c1, c2, c3⟩ := (P0.out.below HB1.out hsz).cells
  rcases a with _ | _
  · go_wp2_with fail
    go_ret
    exact ⟨by rw [HT.out] <;> rfl, HW1.out⟩
  go_wp2_with fail
  refine (HCR.out w1 HW1.out).mono ?_
  rintro e w2 ⟨rfl, hb2⟩
  have HB2 := Lib.hid (bth HB1.out hb2 (Nat.le_refl _))
  have HW2 := Lib.hid (bth HW1.out hb2 (Nat.le_refl _))
  clear hb2 c0 c1 c2 c3
  obtain ⟨c0, c1, c2, c3⟩ := (P0.out.below HB2.out hsz).cells
  rcases c with _ | _
  · go_wp2_with fail
    go_ret
    exact ⟨by rw [HT.out] <;> rfl, HW2.out⟩
  · go_wp2_with fail
    go_ret
    exact ⟨by rw [HT.out] <;> rfl, HW2.out⟩

set_option maxRecDepth 20000 in
set_option maxHeartbeats 4000000 in
theorem implBoth_b {ls : List (List Int)} {l : List Int} {bs : List Bool} {rs : List (List OpT)} {m : List ResT} {b : Bool} (h : bothA ls l bs rs m = b) (v u : Value) (w : World) (hp : PlanV w v ls l bs rs) (hr : RowR w u m) (hx : ∀ l ∈ rs, ∀ f ∈ l, f.2.2.length ≤ maxLen) (hxm : ∀ f ∈ m, f.1.length ≤ maxLen) :
    Calls Tryz.prog 97 #[v, u] w (BoolPost b w) := by
  have HV := Lib.hid hp
  have HR := Lib.hid hr
  obtain ⟨nv, ov, sv, rv, rfl, h1, h2, h3, h4⟩ := hp
  obtain ⟨as0, cs, rfl, hs1, hs2, _⟩ := h3.boolsW
  obtain ⟨an, cn, rfl, hn1, hn2, hatn⟩ := h1.lists
  obtain ⟨ao, co, rfl, ho1, ho2, _⟩ := h2.ints
  obtain ⟨ar, cr, rfl, hr1, hr2, _⟩ := h4.lists
  obtain ⟨am, cm, rfl, hm1, hm2, hatm⟩ := hr.res
  clear h1 h2 h3 h4 hr hatn hatm
  unfold maxLen at hs2 hn2 ho2 hr2 hm2
  obtain ⟨wa, hwa⟩ : ∃ wa, wa = w.alloc (.cells #[.slice an ls.length cn, .slice ao l.length co, .slice as0 bs.length cs, .slice ar rs.length cr] 42) := ⟨_, rfl⟩
  have hsz : w.heap.size < wa.heap.size := by rw [hwa]; simp
  have P0 : Hid (Blk4 wa w.heap.size 42 (.slice an ls.length cn) (.slice ao l.length co) (.slice as0 bs.length cs) (.slice ar rs.length cr)) := by rw [hwa]; exact Blk4.new
  have HA : Hid (Below w.heap.size w wa) := by rw [hwa]; exact (Below.refl w.heap.size w).alloc (Nat.le_refl _) _
  have HWA := Lib.hid hwa
  obtain ⟨a, ha⟩ : ∃ a, planA ls l bs rs = a := ⟨_, rfl⟩
  obtain ⟨c, hc⟩ : ∃ c, resA m = c := ⟨_, rfl⟩
  obtain ⟨d, hd⟩ : ∃ d, decide (m.length = bs.length) = d := ⟨_, rfl⟩
  have HT : Hid (b = (a && (c && d))) := by rw [← h]; unfold bothA; rw [ha, hc, hd]; rfl
  have HC := Lib.hid (implPlan_b ha _ wa (HV.out.below HA.out) hx)
  have HCR := Lib.hid (fun W (hb : Below w.heap.size w W) => areRes_b hc _ W (HR.out.below hb) hxm)
  have eb : ((m.length : Int) == (bs.length : Int)) = d := by rw [← hd, Bool.eq_iff_iff]; simp; omega
  obtain ⟨c0, c1, c2, c3⟩ := P0.out.cells
  clear hwa h ha hc hd hx hxm
  go_enter Tryz.func97, Tryz.ntmps97
  go_wp2_with fail
  rw [← HWA.out]
  refine HC.out.mono ?_
  rintro e w1 ⟨rfl, hb1⟩
  have HB1 := Lib.hid hb1
  have HW1 := Lib.hid (bth HA.out hb1 (Nat.le_refl _))
  clear hb1 c0 c1 c2 c3 HC
  obtain ⟨c0, c1, c2, c3⟩ := (P0.out.below HB1.out hsz).cells
  rcases a with _ | _
  · go_wp2_with fail
    go_ret
    exact ⟨by rw [HT.out] <;> rfl, HW1.out⟩
  rcases d with _ | _
  · go_wp2_with fail
    go_ret
    exact ⟨by rw [HT.out] <;> (cases c <;> rfl), HW1.out⟩
  go_wp2_with fail
  refine (HCR.out w1 HW1.out).mono ?_
  rintro e w2 ⟨rfl, hb2⟩
  have HW2 := Lib.hid (bth HW1.out hb2 (Nat.le_refl _))
  clear hb2 c0 c1 c2 c3
  go_wp2_with fail
  go_ret
  exact ⟨by rw [HT.out] <;> (cases c <;> rfl), HW2.out⟩

theorem own_S2 {w : World} {B e : Nat} {v : Value} {l : List (List UInt8)} {x : List UInt8} (h : w.ownsRow B e 1 v (S l ++ [Value.string ⟨x.toArray⟩]).length (S l ++ [Value.string ⟨x.toArray⟩])) : w.ownsRow B e 1 v (l ++ [x]).length (S (l ++ [x])) := by
  rw [← S_len, S_append]; exact h

set_option maxRecDepth 20000 in
set_option maxHeartbeats 8000000 in
theorem first_any (ls : List (List Int)) (l : List Int) (bs : List Bool) (rs : List (List OpT)) (m : List ResT) (t : Nat) (v u : Value) (w : World) (hp : PlanV w v ls l bs rs) (hr : RowR w u m) (hpl : planA ls l bs rs = true) (hmb : m.length = bs.length) (ht : t < ls.length) :
    Calls Tryz.prog 84 #[v, u, .int .i64 (t : Int)] w (NumOk (firstL m ls[t]) w) := by
  have hbl := (plan_parts hpl).2.1
  have HV := Lib.hid hp
  have HR := Lib.hid hr
  obtain ⟨nv, ov, sv, rv, rfl, h1, h2, h3, h4⟩ := hp
  obtain ⟨as0, cs, rfl, hs1, hs2, _⟩ := h3.boolsW
  obtain ⟨an, cn, rfl, hn1, hn2, hatn⟩ := h1.lists
  obtain ⟨ao, co, rfl, ho1, ho2, _⟩ := h2.ints
  obtain ⟨ar, cr, rfl, hr1, hr2, _⟩ := h4.lists
  obtain ⟨am, cm, rfl, hm1, hm2, hatm⟩ := hr.res
  clear h1 h2 h3 h4 hr
  unfold maxLen at hs2 hn2 ho2 hr2 hm2
  obtain ⟨wa, hwa⟩ : ∃ wa, wa = w.alloc (.cells #[.slice an ls.length cn, .slice ao l.length co, .slice as0 bs.length cs, .slice ar rs.length cr] 42) := ⟨_, rfl⟩
  have hsz : w.heap.size < wa.heap.size := by rw [hwa]; simp
  have P0 : Hid (Blk4 wa w.heap.size 42 (.slice an ls.length cn) (.slice ao l.length co) (.slice as0 bs.length cs) (.slice ar rs.length cr)) := by rw [hwa]; exact Blk4.new
  have HA : Hid (Below w.heap.size w wa) := by rw [hwa]; exact (Below.refl w.heap.size w).alloc (Nat.le_refl _) _
  have HWA := Lib.hid hwa
  have hml : m.length = ls.length := by omega
  obtain ⟨gn, on, an2, cn2, rfl, hgn, hcn, hrn⟩ := hatn t ht
  obtain ⟨_, _, hev, hcl, hcm, hatk⟩ := hrn.ints
  injection hev with hea _ hec
  subst hea hec
  unfold maxLen at hcm
  have HATK := Lib.hid hatk
  have HATM := Lib.hid hatm
  obtain ⟨hl10, hin⟩ := plan_task hpl ht
  have HIN := Lib.hid hin
  have HML := Lib.hid hml
  have HNC : Hid (wa.cell? ⟨gn, on + t, none⟩ = some (.slice an2 ls[t].length cn2)) := (HA.out.cell (p := ⟨gn, on + t, none⟩) hgn).trans hcn
  have htz : (t : Int) < (ls.length : Int) := by omega
  obtain ⟨c0, c1, c2, c3⟩ := P0.out.cells
  clear hwa hatn hatm hatk hin hpl hrn hml hmb hbl
  go_enter Tryz.func84, Tryz.ntmps84
  go_wp2_with fail
  rw [← HWA.out]
  clear c0 c1 c2 c3 hcn
  go_loopw [17] (fun i wr => ∃ k : Nat, k ≤ ls[t].length ∧ i = .int .i64 k ∧ Hid (Below wa.heap.size wa wr) ∧ Hid (∀ x ∈ ls[t].take k, (resAt m x).2 = 0)) (fun i _ => ls[t].length - (intOf i).toNat)
  case atStart => exact ⟨0, Nat.zero_le _, rfl, Below.refl _ _, by simp [Hid]⟩
  case round =>
    obtain ⟨k, hk, rfl, HB, HO⟩ := hrel
    have HBW := Lib.hid (bth HA.out HB.out (Nat.le_refl _))
    by_cases hlt : k < ls[t].length
    · obtain ⟨g, o, rfl, hg, hcell0⟩ := HATK.out k hlt
      have hcell := (HBW.out.cell (p := ⟨g, o + k, none⟩) hg).trans hcell0
      obtain ⟨hx0, hx1⟩ := HIN.out _ (List.getElem_mem hlt)
      obtain ⟨y, hy⟩ : ∃ y : Nat, ls[t][k] = y := ⟨(ls[t][k]).toNat, by omega⟩
      have hym : y < m.length := by have := HML.out; omega
      obtain ⟨g2, o2, rfl, hg2, hm1', hm2'⟩ := HATM.out y hym
      have s1 := (HBW.out.cell (p := ⟨g2, o2 + y * 2, none⟩) hg2).trans hm1'
      have s2 := (HBW.out.cell (p := ⟨g2, o2 + y * 2 + 1, none⟩) hg2).trans hm2'
      have hra := resAt_nat hym
      have hyz : (y : Int) < (m.length : Int) := by omega
      by_cases hz : m[y].2 = 0
      · have HE : Hid (∀ x ∈ ls[t].take (k + 1), (resAt m x).2 = 0) := take_zero hlt HO.out (by rw [hy, hra]; exact hz)
        have e0 : (m[y].2 != 0) = false := by simp [hz]
        rw [hy] at hcell
        clear hcell0 hx0 hx1 hy hm1' hm2' HO hra hz HATK HATM HIN
        generalize m[y] = q at *
        obtain ⟨q1, q2⟩ := q
        simp only at s1 s2 e0
        obtain ⟨c0, c1, c2, c3⟩ := (P0.out.below HB.out hsz).cells
        go_wp2_with fail
        go_roundw
        case rel => exact ⟨k + 1, by omega, by go_num, HB, HE⟩
        case measure => simp [intOf]; omega
      · have HE : Hid (firstL m ls[t] = ((y : Int), true)) := by show _ = _; rw [first_yes hlt HO.out (by rw [hy, hra]; exact hz), hy]
        have e0 : (m[y].2 != 0) = true := by simp [hz]
        rw [hy] at hcell
        clear hcell0 hx0 hx1 hy hm1' hm2' HO hra hz HATK HATM HIN
        generalize m[y] = q at *
        obtain ⟨q1, q2⟩ := q
        simp only at s1 s2 e0
        obtain ⟨c0, c1, c2, c3⟩ := (P0.out.below HB.out hsz).cells
        go_wp2_with fail
        go_ret2
        exact ⟨by rw [HE.out] <;> rfl, HBW.out⟩
    · have HE : Hid (firstL m ls[t] = (0, false)) := first_no (by have := HO.out; rwa [List.take_of_length_le (by omega)] at this)
      clear HO HATK HATM HIN
      go_wp2_with fail
      go_ret2
      exact ⟨by rw [HE.out] <;> rfl, HBW.out⟩

end Go.Proofs.YtgolhfmmlanmlaaGreatDoor

/- Walks: whether the bodies of sources are good, of the reference and of the program. -/
namespace Go.Proofs.YtgolhfmmlanmlaaGreatDoor
open Go.RowKit Pth

def srcP (bs : List Bool) (ts : List (List UInt8)) (k : Nat) : Bool := decide ((ts.getD k []).length ≤ 40) && (bs.getD k false || decide (ts.getD k [] = []))
noncomputable def srcA (ls : List (List Int)) (l : List Int) (bs : List Bool) (rs : List (List OpT)) (ts : List (List UInt8)) : Bool :=
  planA ls l bs rs && (decide (ts.length = bs.length) && (List.range ts.length).all (srcP bs ts))
theorem srcP_at {bs : List Bool} {ts : List (List UInt8)} {k : Nat} (h1 : k < bs.length) (h2 : k < ts.length) : srcP bs ts k = (decide (ts[k].length ≤ 40) && (bs[k] || decide (ts[k] = []))) := by
  unfold srcP; rw [getD_at _ h1, getD_at _ h2]
theorem src_noP {ls : List (List Int)} {l : List Int} {bs : List Bool} {rs : List (List OpT)} {ts : List (List UInt8)} (h : planA ls l bs rs = false) : srcA ls l bs rs ts = false := by unfold srcA; rw [h]; rfl
theorem src_noL {ls : List (List Int)} {l : List Int} {bs : List Bool} {rs : List (List OpT)} {ts : List (List UInt8)} (h : ts.length ≠ bs.length) : srcA ls l bs rs ts = false := by unfold srcA; rw [decide_eq_false h]; simp
theorem src_bad {ls : List (List Int)} {l : List Int} {bs : List Bool} {rs : List (List OpT)} {ts : List (List UInt8)} {k : Nat} (hk : k < ts.length) (h : srcP bs ts k = false) : srcA ls l bs rs ts = false := by
  have : (List.range ts.length).all (srcP bs ts) = false := List.all_eq_false.2 ⟨k, by simpa using hk, by simp [h]⟩
  unfold srcA; rw [this]; simp
theorem src_next {bs : List Bool} {ts : List (List UInt8)} {k : Nat} (h : ∀ j, j < k → srcP bs ts j = true) (hp : srcP bs ts k = true) : ∀ j, j < k + 1 → srcP bs ts j = true := by
  intro j hj
  by_cases e : j = k
  · rw [e]; exact hp
  · exact h j (by omega)
theorem src_end {ls : List (List Int)} {l : List Int} {bs : List Bool} {rs : List (List OpT)} {ts : List (List UInt8)} {k : Nat} (hk : ts.length ≤ k) (hg : planA ls l bs rs = true) (h1 : ts.length = bs.length) (h : ∀ j, j < k → srcP bs ts j = true) : srcA ls l bs rs ts = true := by
  have : (List.range ts.length).all (srcP bs ts) = true := List.all_eq_true.2 (fun j hj => h j (by simp at hj; omega))
  unfold srcA; rw [hg, decide_eq_true h1, this]; rfl
theorem src_parts {ls : List (List Int)} {l : List Int} {bs : List Bool} {rs : List (List OpT)} {ts : List (List UInt8)} (h : srcA ls l bs rs ts = true) : planA ls l bs rs = true ∧ ts.length = bs.length ∧ ∀ k, k < ts.length → srcP bs ts k = true := by
  unfold srcA at h
  simp only [Bool.and_eq_true, decide_eq_true_eq, List.all_eq_true, List.mem_range] at h
  exact ⟨h.1, h.2.1, h.2.2⟩

set_option maxRecDepth 20000 in
set_option maxHeartbeats 8000000 in
theorem specSrc_any (ls : List (List Int)) (l : List Int) (bs : List Bool) (rs : List (List OpT)) (ts : List (List UInt8)) (v u : Value) (w : World) (hp : PlanV w v ls l bs rs) (hu : RowV w u (S ts)) (hx : ∀ l ∈ rs, ∀ f ∈ l, f.2.2.length ≤ maxLen) (hxt : ∀ x ∈ ts, x.length ≤ maxLen) :
    Calls Tryz.prog 38 #[v, u] w (BoolPost (srcA ls l bs rs ts) w) := by
  have HV := Lib.hid hp
  obtain ⟨nv, ov, sv, rv, rfl, h1, h2, h3, h4⟩ := hp
  obtain ⟨as0, cs, rfl, hs1, hs2, hats⟩ := h3.boolsW
  obtain ⟨an, cn, rfl, hn1, hn2, _⟩ := h1.lists
  obtain ⟨ao, co, rfl, ho1, ho2, _⟩ := h2.ints
  obtain ⟨ar, cr, rfl, hr1, hr2, _⟩ := h4.lists
  obtain ⟨at0, ct, rfl, ht1, ht2, hatt⟩ := hu.texts
  clear h1 h2 h3 h4 hu
  unfold maxLen at hs2 hn2 ho2 hr2 ht2
  obtain ⟨wa, hwa⟩ : ∃ wa, wa = w.alloc (.cells #[.slice an ls.length cn, .slice ao l.length co, .slice as0 bs.length cs, .slice ar rs.length cr] 42) := ⟨_, rfl⟩
  have hsz : w.heap.size < wa.heap.size := by rw [hwa]; simp
  have P0 : Hid (Blk4 wa w.heap.size 42 (.slice an ls.length cn) (.slice ao l.length co) (.slice as0 bs.length cs) (.slice ar rs.length cr)) := by rw [hwa]; exact Blk4.new
  have HA : Hid (Below w.heap.size w wa) := by rw [hwa]; exact (Below.refl w.heap.size w).alloc (Nat.le_refl _) _
  obtain ⟨G, hG⟩ : ∃ G, planA ls l bs rs = G := ⟨_, rfl⟩
  have HC := Lib.hid (specPlan_b hG _ wa (HV.out.below HA.out) hx)
  have HWA := Lib.hid hwa
  have HATS := Lib.hid hats
  have HATT := Lib.hid hatt
  have HXT := Lib.hid hxt
  obtain ⟨c0, c1, c2, c3⟩ := P0.out.cells
  clear hwa hats hatt hx hxt
  rcases G with _ | _
  · have HT : Hid (srcA ls l bs rs ts = false) := src_noP hG
    clear hG
    go_enter Tryz.func38, Tryz.ntmps38
    go_wp2_with fail
    rw [← HWA.out]
    refine HC.out.mono ?_
    rintro e w1 ⟨rfl, hb1⟩
    have HB1 := Lib.hid (bth HA.out hb1 (Nat.le_refl _))
    clear hb1 c0 c1 c2 c3
    go_wp2_with fail
    go_ret
    exact ⟨ret_bool HT.out.symm, HB1.out⟩
  by_cases hb : ts.length = bs.length
  · have eb : ((ts.length : Int) != (bs.length : Int)) = false := by simp [hb]
    have HGG := Lib.hid hG
    have HBL := Lib.hid hb
    have hb10 : bs.length ≤ 10 := by obtain ⟨g, h1, _⟩ := plan_parts hG; have := g.high; omega
    clear hG hb
    go_enter Tryz.func38, Tryz.ntmps38
    go_wp2_with fail
    rw [← HWA.out]
    refine HC.out.mono ?_
    rintro e w1 ⟨rfl, hb1⟩
    have HB1 := Lib.hid hb1
    clear hb1 c0 c1 c2 c3 HC
    obtain ⟨c0, c1, c2, c3⟩ := (P0.out.below HB1.out hsz).cells
    go_wp2_with fail
    clear c0 c1 c2 c3
    go_loopw [20] (fun i wr => ∃ k : Nat, k ≤ ts.length ∧ i = .int .i64 k ∧ Hid (Below wa.heap.size wa wr) ∧ Hid (∀ j, j < k → srcP bs ts j = true)) (fun i _ => ts.length - (intOf i).toNat)
    case atStart => exact ⟨0, Nat.zero_le _, rfl, HB1.out, fun j hj => by omega⟩
    case round =>
      clear HB1
      obtain ⟨k, hk, rfl, HB, HO⟩ := hrel
      have HBW := Lib.hid (bth HA.out HB.out (Nat.le_refl _))
      by_cases hlt : k < ts.length
      · have hkb : k < bs.length := by have := HBL.out; omega
        obtain ⟨gb, ob, rfl, hgb, hcb⟩ := HATS.out k hkb
        obtain ⟨gt, ot, rfl, hgt, hct⟩ := HATT.out k hlt
        have s1 := (HBW.out.cell (p := ⟨gb, ob + k, none⟩) hgb).trans hcb
        have s2 := (HBW.out.cell (p := ⟨gt, ot + k, none⟩) hgt).trans hct
        have hxl := HXT.out _ (List.getElem_mem hlt)
        obtain ⟨b2, hb2⟩ : ∃ b, decide (ts[k].length ≤ 40) = b := ⟨_, rfl⟩
        obtain ⟨b4, hb4⟩ : ∃ b, decide (ts[k] = []) = b := ⟨_, rfl⟩
        have e4 := nil_b hb4
        have e2 : decide ((ts[k].length : Int) > 40) = !b2 := by rw [← hb2, Bool.eq_iff_iff]; simp <;> omega
        have HCL := Lib.hid (fun W => longR_b hb2 W hxl)
        have HS : Hid (if b2 && (bs[k] || b4) then (∀ j, j < k + 1 → srcP bs ts j = true) else srcA ls l bs rs ts = false) := by
          have hPP : srcP bs ts k = (b2 && (bs[k] || b4)) := by rw [srcP_at hkb hlt, hb2, hb4]
          unfold Hid
          split
          · rename_i h; exact src_next HO.out (by rw [hPP]; exact h)
          · rename_i h; exact src_bad hlt (by rw [hPP]; simpa using h)
        have hki : (k : Int) < (bs.length : Int) := by omega
        obtain ⟨c0, c1, c2, c3⟩ := (P0.out.below HB.out hsz).cells
        clear hcb hct hb2 hb4 HATS HATT HXT HO
        generalize ts[k] = x at *
        generalize bs[k] = s at *
        unfold maxLen at hxl
        rcases b2 with _ | _
        · simp only [Bool.not_false] at e2
          go_wp2_with fail
          go_ret
          exact ⟨ret_bool (by have := HS.out; simpa using this.symm), HBW.out⟩
        · simp only [Bool.not_true] at e2
          rcases s with _ | _
          · rcases b4 with _ | _
            · go_wp2_with fail
              go_ret
              exact ⟨ret_bool (by have := HS.out; simpa using this.symm), HBW.out⟩
            · go_wp2_with fail
              go_roundw
              case rel => exact ⟨k + 1, by omega, by go_num, HB, by have := HS.out; simpa [Hid] using this⟩
              case measure => simp [intOf]; omega
          · clear e4
            go_wp2_with fail
            go_roundw
            case rel => exact ⟨k + 1, by omega, by go_num, HB, by have := HS.out; simpa [Hid] using this⟩
            case measure => simp [intOf]; omega
      · have HT : Hid (srcA ls l bs rs ts = true) := src_end (by omega) HGG.out HBL.out HO.out
        clear HO HATS HATT
        go_wp2_with fail
        go_ret
        exact ⟨ret_bool HT.out.symm, HBW.out⟩
  · have eb : ((ts.length : Int) != (bs.length : Int)) = true := by simp; omega
    have HT : Hid (srcA ls l bs rs ts = false) := src_noL hb
    clear hG hb
    go_enter Tryz.func38, Tryz.ntmps38
    go_wp2_with fail
    rw [← HWA.out]
    refine HC.out.mono ?_
    rintro e w1 ⟨rfl, hb1⟩
    have HB1 := Lib.hid (bth HA.out hb1 (Nat.le_refl _))
    obtain ⟨d0, d1, d2, d3⟩ := (P0.out.below hb1 hsz).cells
    clear hb1 c0 c1 c2 c3
    go_wp2_with fail
    go_ret
    exact ⟨ret_bool HT.out.symm, HB1.out⟩

set_option maxRecDepth 20000 in
set_option maxHeartbeats 8000000 in
theorem implSrc_any (ls : List (List Int)) (l : List Int) (bs : List Bool) (rs : List (List OpT)) (ts : List (List UInt8)) (v u : Value) (w : World) (hp : PlanV w v ls l bs rs) (hu : RowV w u (S ts)) (hx : ∀ l ∈ rs, ∀ f ∈ l, f.2.2.length ≤ maxLen) (hxt : ∀ x ∈ ts, x.length ≤ maxLen) :
    Calls Tryz.prog 49 #[v, u] w (BoolPost (srcA ls l bs rs ts) w) := by
  have HV := Lib.hid hp
  obtain ⟨nv, ov, sv, rv, rfl, h1, h2, h3, h4⟩ := hp
  obtain ⟨as0, cs, rfl, hs1, hs2, hats⟩ := h3.boolsW
  obtain ⟨an, cn, rfl, hn1, hn2, _⟩ := h1.lists
  obtain ⟨ao, co, rfl, ho1, ho2, _⟩ := h2.ints
  obtain ⟨ar, cr, rfl, hr1, hr2, _⟩ := h4.lists
  obtain ⟨at0, ct, rfl, ht1, ht2, hatt⟩ := hu.texts
  clear h1 h2 h3 h4 hu
  unfold maxLen at hs2 hn2 ho2 hr2 ht2
  obtain ⟨wa, hwa⟩ : ∃ wa, wa = w.alloc (.cells #[.slice an ls.length cn, .slice ao l.length co, .slice as0 bs.length cs, .slice ar rs.length cr] 42) := ⟨_, rfl⟩
  have hsz : w.heap.size < wa.heap.size := by rw [hwa]; simp
  have P0 : Hid (Blk4 wa w.heap.size 42 (.slice an ls.length cn) (.slice ao l.length co) (.slice as0 bs.length cs) (.slice ar rs.length cr)) := by rw [hwa]; exact Blk4.new
  have HA : Hid (Below w.heap.size w wa) := by rw [hwa]; exact (Below.refl w.heap.size w).alloc (Nat.le_refl _) _
  obtain ⟨G, hG⟩ : ∃ G, planA ls l bs rs = G := ⟨_, rfl⟩
  have HC := Lib.hid (implPlan_b hG _ wa (HV.out.below HA.out) hx)
  have HWA := Lib.hid hwa
  have HATS := Lib.hid hats
  have HATT := Lib.hid hatt
  have HXT := Lib.hid hxt
  obtain ⟨c0, c1, c2, c3⟩ := P0.out.cells
  clear hwa hats hatt hx hxt
  rcases G with _ | _
  · have HT : Hid (srcA ls l bs rs ts = false) := src_noP hG
    clear hG
    go_enter Tryz.func49, Tryz.ntmps49
    go_wp2_with fail
    rw [← HWA.out]
    refine HC.out.mono ?_
    rintro e w1 ⟨rfl, hb1⟩
    have HB1 := Lib.hid (bth HA.out hb1 (Nat.le_refl _))
    clear hb1 c0 c1 c2 c3
    go_wp2_with fail
    go_ret
    exact ⟨ret_bool HT.out.symm, HB1.out⟩
  by_cases hb : ts.length = bs.length
  · have eb : ((ts.length : Int) != (bs.length : Int)) = false := by simp [hb]
    have HGG := Lib.hid hG
    have HBL := Lib.hid hb
    have hb10 : bs.length ≤ 10 := by obtain ⟨g, h1, _⟩ := plan_parts hG; have := g.high; omega
    clear hG hb
    go_enter Tryz.func49, Tryz.ntmps49
    go_wp2_with fail
    rw [← HWA.out]
    refine HC.out.mono ?_
    rintro e w1 ⟨rfl, hb1⟩
    have HB1 := Lib.hid hb1
    clear hb1 c0 c1 c2 c3 HC
    obtain ⟨c0, c1, c2, c3⟩ := (P0.out.below HB1.out hsz).cells
    go_wp2_with fail
    clear c0 c1 c2 c3
    go_loopw [20] (fun i wr => ∃ k : Nat, k ≤ ts.length ∧ i = .int .i64 k ∧ Hid (Below wa.heap.size wa wr) ∧ Hid (∀ j, j < k → srcP bs ts j = true)) (fun i _ => ts.length - (intOf i).toNat)
    case atStart => exact ⟨0, Nat.zero_le _, rfl, HB1.out, fun j hj => by omega⟩
    case round =>
      clear HB1
      obtain ⟨k, hk, rfl, HB, HO⟩ := hrel
      have HBW := Lib.hid (bth HA.out HB.out (Nat.le_refl _))
      by_cases hlt : k < ts.length
      · have hkb : k < bs.length := by have := HBL.out; omega
        obtain ⟨gb, ob, rfl, hgb, hcb⟩ := HATS.out k hkb
        obtain ⟨gt, ot, rfl, hgt, hct⟩ := HATT.out k hlt
        have s1 := (HBW.out.cell (p := ⟨gb, ob + k, none⟩) hgb).trans hcb
        have s2 := (HBW.out.cell (p := ⟨gt, ot + k, none⟩) hgt).trans hct
        have hxl := HXT.out _ (List.getElem_mem hlt)
        obtain ⟨b2, hb2⟩ : ∃ b, decide (ts[k].length ≤ 40) = b := ⟨_, rfl⟩
        obtain ⟨b4, hb4⟩ : ∃ b, decide (ts[k] = []) = b := ⟨_, rfl⟩
        have e4 := nil_b hb4
        have e2 : decide ((ts[k].length : Int) > 40) = !b2 := by rw [← hb2, Bool.eq_iff_iff]; simp <;> omega
        have HCL := Lib.hid (fun W => longR_b hb2 W hxl)
        have HS : Hid (if b2 && (bs[k] || b4) then (∀ j, j < k + 1 → srcP bs ts j = true) else srcA ls l bs rs ts = false) := by
          have hPP : srcP bs ts k = (b2 && (bs[k] || b4)) := by rw [srcP_at hkb hlt, hb2, hb4]
          unfold Hid
          split
          · rename_i h; exact src_next HO.out (by rw [hPP]; exact h)
          · rename_i h; exact src_bad hlt (by rw [hPP]; simpa using h)
        have hki : (k : Int) < (bs.length : Int) := by omega
        obtain ⟨c0, c1, c2, c3⟩ := (P0.out.below HB.out hsz).cells
        clear hcb hct hb2 hb4 HATS HATT HXT HO
        generalize ts[k] = x at *
        generalize bs[k] = s at *
        unfold maxLen at hxl
        rcases b2 with _ | _
        · clear e2
          go_wp2_with fail
          refine (HCL.out wr).mono ?_
          rintro e w2 ⟨rfl, rfl⟩
          go_wp2_with fail
          go_ret
          exact ⟨ret_bool (by have := HS.out; simpa using this.symm), HBW.out⟩
        · clear e2
          rcases s with _ | _
          · rcases b4 with _ | _
            · go_wp2_with fail
              refine (HCL.out wr).mono ?_
              rintro e w2 ⟨rfl, rfl⟩
              go_wp2_with fail
              go_ret
              exact ⟨ret_bool (by have := HS.out; simpa using this.symm), HBW.out⟩
            · go_wp2_with fail
              refine (HCL.out wr).mono ?_
              rintro e w2 ⟨rfl, rfl⟩
              go_wp2_with fail
              go_roundw
              case rel => exact ⟨k + 1, by omega, by go_num, HB, by have := HS.out; simpa [Hid] using this⟩
              case measure => simp [intOf]; omega
          · clear e4
            go_wp2_with fail
            refine (HCL.out wr).mono ?_
            rintro e w2 ⟨rfl, rfl⟩
            go_wp2_with fail
            go_roundw
            case rel => exact ⟨k + 1, by omega, by go_num, HB, by have := HS.out; simpa [Hid] using this⟩
            case measure => simp [intOf]; omega
      · have HT : Hid (srcA ls l bs rs ts = true) := src_end (by omega) HGG.out HBL.out HO.out
        clear HO HATS HATT
        go_wp2_with fail
        go_ret
        exact ⟨ret_bool HT.out.symm, HBW.out⟩
  · have eb : ((ts.length : Int) != (bs.length : Int)) = true := by simp; omega
    have HT : Hid (srcA ls l bs rs ts = false) := src_noL hb
    clear hG hb
    go_enter Tryz.func49, Tryz.ntmps49
    go_wp2_with fail
    rw [← HWA.out]
    refine HC.out.mono ?_
    rintro e w1 ⟨rfl, hb1⟩
    have HB1 := Lib.hid (bth HA.out hb1 (Nat.le_refl _))
    obtain ⟨d0, d1, d2, d3⟩ := (P0.out.below hb1 hsz).cells
    clear hb1 c0 c1 c2 c3
    go_wp2_with fail
    go_ret
    exact ⟨ret_bool HT.out.symm, HB1.out⟩

end Go.Proofs.YtgolhfmmlanmlaaGreatDoor

/- What tasks come to along the order, as mathematics. -/
namespace Go.Proofs.YtgolhfmmlanmlaaGreatDoor
open Go.RowKit Pth

/-- What a task comes out as. -/
def madeR (blocked did : Bool) (t : List UInt8) : ResT := if blocked then ([], 2) else if did then (t, 0) else ([], 1)
/-- What is made of results as they are. -/
def makeM (ls : List (List Int)) (rs : List (List OpT)) (m : List ResT) (k : Nat) : ResT :=
  madeR (firstL m (ls.getD k [])).2 (Pth.runT (bodiesL m (ls.getD k [])) (rs.getD k []) []).isSome (txtO (Pth.runT (bodiesL m (ls.getD k [])) (rs.getD k []) []))
/-- What a task is to be. -/
def oneM (ls : List (List Int)) (bs : List Bool) (rs : List (List OpT)) (ts : List (List UInt8)) (m : List ResT) (k : Nat) : ResT :=
  if bs.getD k false then (ts.getD k [], 0) else makeM ls rs m k
/-- Results of at most so many bytes. -/
def Sml (m : List ResT) : Prop := ∀ f ∈ m, f.1.length ≤ 40
theorem Sml.set {m : List ResT} (h : Sml m) {r : ResT} (hr : r.1.length ≤ 40) (k : Nat) : Sml (m.set k r) := by
  intro f hf
  rcases List.mem_or_eq_of_mem_set hf with h1 | h1
  · exact h f h1
  · rw [h1]; exact hr
theorem sml_none (n : Nat) : Sml (List.replicate n noRes) := by
  intro f hf; rw [(List.mem_replicate.1 hf).2]; simp [noRes]
theorem madeR_len {b d : Bool} {t : List UInt8} (h : t.length ≤ 40) : (madeR b d t).1.length ≤ 40 := by
  unfold madeR; split
  · simp
  · split
    · exact h
    · simp
theorem txt_len {x : Option (List UInt8)} (h : ∀ y, x = some y → y.length ≤ 40) : (txtO x).length ≤ 40 := by
  cases x with
  | none => simp [txtO]
  | some y => exact h y rfl
theorem makeM_len (ls : List (List Int)) (rs : List (List OpT)) (m : List ResT) (k : Nat) : (makeM ls rs m k).1.length ≤ 40 :=
  madeR_len (txt_len (fun _ h => runT_len (by simp) h))
theorem oneM_len {ls : List (List Int)} {bs : List Bool} {rs : List (List OpT)} {ts : List (List UInt8)} {m : List ResT} {k : Nat} (ht : ∀ x ∈ ts, x.length ≤ 40) : (oneM ls bs rs ts m k).1.length ≤ 40 := by
  unfold oneM; split
  · simp only
    rcases Nat.lt_or_ge k ts.length with h | h
    · rw [getD_at _ h]; exact ht _ (List.getElem_mem h)
    · rw [List.getD_eq_getElem?_getD, List.getElem?_eq_none h]; simp
  · exact makeM_len _ _ _ _
theorem src_len {ls : List (List Int)} {l : List Int} {bs : List Bool} {rs : List (List OpT)} {ts : List (List UInt8)} (h : srcA ls l bs rs ts = true) : ∀ x ∈ ts, x.length ≤ 40 := by
  intro x hx
  obtain ⟨k, hk, rfl⟩ := List.getElem_of_mem hx
  have := (src_parts h).2.2 k hk
  rw [srcP_at (by have := (src_parts h).2.1; omega) hk, Bool.and_eq_true, decide_eq_true_eq] at this
  exact this.1
theorem res_len {m : List ResT} (h : resA m = true) : Sml m := fun f hf => (resA_small h).2 f hf

/-- A walk along the order: those that are due are made. -/
def passM (one : List ResT → Nat → ResT) (due : List ResT → Nat → Bool) : List Int → List ResT × List Int → List ResT × List Int
  | [], s => s
  | k :: r, s => passM one due r (if due s.1 k.toNat then (s.1.set k.toNat (one s.1 k.toNat), s.2 ++ [k]) else s)
theorem pass_append (one : List ResT → Nat → ResT) (due : List ResT → Nat → Bool) (a b : List Int) (s : List ResT × List Int) : passM one due (a ++ b) s = passM one due b (passM one due a s) := by
  induction a generalizing s with
  | nil => rfl
  | cons k t ih => simp only [List.cons_append, passM]; exact ih _
theorem pass_next (one : List ResT → Nat → ResT) (due : List ResT → Nat → Bool) {l : List Int} {k : Nat} (hk : k < l.length) (s : List ResT × List Int) : passM one due (l.take (k + 1)) s =
    (if due (passM one due (l.take k) s).1 l[k].toNat then ((passM one due (l.take k) s).1.set l[k].toNat (one (passM one due (l.take k) s).1 l[k].toNat), (passM one due (l.take k) s).2 ++ [l[k]]) else passM one due (l.take k) s) := by
  rw [List.take_succ_eq_append_getElem hk, pass_append]; rfl
theorem pass_len (one : List ResT → Nat → ResT) (due : List ResT → Nat → Bool) (l : List Int) (s : List ResT × List Int) : (passM one due l s).1.length = s.1.length := by
  induction l generalizing s with
  | nil => rfl
  | cons k t ih =>
    simp only [passM]
    rw [ih]
    split
    · simp
    · rfl
theorem pass_sml (one : List ResT → Nat → ResT) (due : List ResT → Nat → Bool) (ho : ∀ m k, (one m k).1.length ≤ 40) (l : List Int) (s : List ResT × List Int) (h : Sml s.1) : Sml (passM one due l s).1 := by
  induction l generalizing s with
  | nil => exact h
  | cons k t ih =>
    simp only [passM]
    refine ih _ ?_
    split
    · exact h.set (ho _ _) _
    · exact h
theorem pass_made (one : List ResT → Nat → ResT) (due : List ResT → Nat → Bool) (l : List Int) (s : List ResT × List Int) : (passM one due l s).2.length ≤ s.2.length + l.length := by
  induction l generalizing s with
  | nil => simp [passM]
  | cons k t ih =>
    simp only [passM]
    refine Nat.le_trans (ih _) ?_
    split
    · simp only [List.length_append, List.length_cons, List.length_nil]; omega
    · simp only [List.length_cons]; omega
/-- How many of some are no sources. -/
def runsL (bs : List Bool) (d : List Int) : Nat := (d.filter (fun k => !bs.getD k.toNat false)).length
theorem runs_app (bs : List Bool) (d : List Int) (k : Int) : runsL bs (d ++ [k]) = runsL bs d + (if bs.getD k.toNat false then 0 else 1) := by
  unfold runsL
  rw [List.filter_append, List.length_append]
  rcases h : bs.getD k.toNat false with _ | _ <;> (rw [List.filter_cons, h]; simp)
theorem runs_le (bs : List Bool) (d : List Int) : runsL bs d ≤ d.length := List.length_filter_le _ _
/-- What a build makes. -/
def buildM (ls : List (List Int)) (l : List Int) (bs : List Bool) (rs : List (List OpT)) (ts : List (List UInt8)) : List ResT :=
  (passM (oneM ls bs rs ts) (fun _ _ => true) l (List.replicate bs.length noRes, [])).1
noncomputable def buildA (ls : List (List Int)) (l : List Int) (bs : List Bool) (rs : List (List OpT)) (ts : List (List UInt8)) : List ResT :=
  if srcA ls l bs rs ts then buildM ls l bs rs ts else []
theorem build_next {one : List ResT → Nat → ResT} {l : List Int} {k : Nat} (hk : k < l.length) (s : List ResT × List Int) : (passM one (fun _ _ => true) (l.take (k + 1)) s).1 = (passM one (fun _ _ => true) (l.take k) s).1.set l[k].toNat (one (passM one (fun _ _ => true) (l.take k) s).1 l[k].toNat) := by
  rw [pass_next _ _ hk]; rfl

/-- Those that are not what they would be. -/
def staleL (one : List ResT → Nat → ResT) (m : List ResT) : List Int := ((List.range m.length).filter (fun k => decide (one m k ≠ m.getD k noRes))).map (fun k : Nat => (k : Int))
def staleP (one : List ResT → Nat → ResT) (m : List ResT) (k : Nat) : Bool := decide (one m k ≠ m.getD k noRes)
theorem mem_stale {one : List ResT → Nat → ResT} {m : List ResT} {k : Nat} : (k : Int) ∈ staleL one m ↔ k < m.length ∧ staleP one m k = true := by
  unfold staleL staleP
  simp only [List.mem_map, List.mem_filter, List.mem_range]
  constructor
  · rintro ⟨j, h, e⟩
    obtain rfl : j = k := by omega
    exact h
  · intro h; exact ⟨k, h, rfl⟩
/-- What is made does not turn on what comes later. -/
structure Ahead (one : List ResT → Nat → ResT) (l : List Int) (n : Nat) : Prop where
  nodup : l.Nodup
  range : ∀ k ∈ l, 0 ≤ k ∧ k < (n : Int)
  all : ∀ k : Nat, k < n → (k : Int) ∈ l
  keeps : ∀ (m : List ResT) (i : Nat) (hi : i < l.length) (k : Int), k ∉ l.take i → m.length = n → ∀ r, one (m.set k.toNat r) l[i].toNat = one m l[i].toNat

theorem ahead_fresh {one : List ResT → Nat → ResT} {l : List Int} {n : Nat} (h : Ahead one l n) {m : List ResT} (hm : m.length = n) {i j : Nat} (hi : i < l.length) (hj : j < l.length) (hij : i ≤ j)
    (hf : i < j → staleP one m l[i].toNat = false) : staleP one (m.set l[j].toNat (one m l[j].toNat)) l[i].toNat = false := by
  have hnj : l[j] ∉ l.take i := by
    intro hc
    have e : l.take i = (l.take j).take i := by rw [List.take_take, Nat.min_eq_left hij]
    rw [e] at hc
    exact nodup_at h.nodup hj (List.mem_of_mem_take hc)
  have hk := h.keeps m i hi l[j] hnj hm (one m l[j].toNat)
  unfold staleP
  rw [hk]
  have hri := h.range _ (List.getElem_mem hi)
  have hrj := h.range _ (List.getElem_mem hj)
  by_cases e : i = j
  · subst e
    rw [List.getD_eq_getElem?_getD, List.getElem?_set_self (by omega)]
    simp
  · have hne : l[i] ≠ l[j] := by
      intro hc
      have hm : l[i] ∈ l.take j := by
        have hlt : i < (l.take j).length := by rw [List.length_take]; omega
        have := List.getElem_mem hlt
        rwa [List.getElem_take] at this
      exact nodup_at h.nodup hj (hc ▸ hm)
    rw [List.getD_eq_getElem?_getD, List.getElem?_set_ne (by omega), ← List.getD_eq_getElem?_getD]
    exact hf (by omega)
/-- Behind a walk up to there nothing ahead is stale. -/
theorem pass_fresh {one : List ResT → Nat → ResT} {l : List Int} {n : Nat} (h : Ahead one l n) {m : List ResT} (hm : m.length = n) {j : Nat} (hj : j ≤ l.length) :
    ∀ i (hi : i < j), staleP one (passM one (staleP one) (l.take j) (m, [])).1 (l[i]'(by omega)).toNat = false := by
  induction j with
  | zero => intro i hi; omega
  | succ j ih =>
    intro i hi
    have hlt : j < l.length := by omega
    have hl := pass_len one (staleP one) (l.take j) (m, [])
    rw [pass_next _ _ hlt]
    rcases hs : staleP one (passM one (staleP one) (l.take j) (m, [])).1 l[j].toNat with _ | _
    · rw [if_neg (by simp)]
      by_cases e : i = j
      · subst e; exact hs
      · exact ih (by omega) i (by omega)
    · rw [if_pos rfl]
      exact ahead_fresh h (by rw [hl]; exact hm) (by omega) hlt (by omega) (fun hh => ih (by omega) i hh)
theorem stale_none {one : List ResT → Nat → ResT} {m : List ResT} (h : ∀ k, k < m.length → staleP one m k = false) : staleL one m = [] := by
  unfold staleL
  rw [List.map_eq_nil_iff, List.filter_eq_nil_iff]
  intro k hk
  have := h k (List.mem_range.1 hk)
  unfold staleP at this
  rw [this]; simp
theorem pass_still {one : List ResT → Nat → ResT} (due : List ResT → Nat → Bool) (l : List Int) (s : List ResT × List Int) (h : ∀ k ∈ l, due s.1 k.toNat = false) : passM one due l s = s := by
  induction l with
  | nil => rfl
  | cons k t ih =>
    simp only [passM]
    rw [h k (by simp), if_neg (by simp)]
    exact ih (fun x hx => h x (by simp [hx]))
end Go.Proofs.YtgolhfmmlanmlaaGreatDoor
