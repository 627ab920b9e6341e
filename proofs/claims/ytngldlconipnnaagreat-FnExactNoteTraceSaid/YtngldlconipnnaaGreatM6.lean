/- Texts of one claim, joined in their order. -/
import Derived.Test.YtngldlconipnnaaGreatM5
import Derived.Test.YtngldlconipnnaaGreatM4
import Derived.Test.YtngldlconipnnaaGreatM3
import Derived.Test.YtngldlconipnnaaGreatM2

/- Walks: results that are good, and those that failed, of the reference and of the program. -/
namespace Go.Proofs.YtngldlconipnnaaGreat
open Go.RowKit Pth

theorem bthR {B : Nat} {w w1 w2 : World} (h : Below B w w1) (k : Below w1.heap.size w1 w2) (hB : B ≤ w.heap.size := by exact Nat.le_refl _) : Below B w w2 := h.trans (k.mono (Nat.le_trans hB h.size))
/-- Whether a result is one. -/
def resOk (r : ResT) : Bool := decide (0 ≤ r.2) && decide (r.2 ≤ 2) && decide (r.1.length ≤ 40) && (decide (r.2 = 0) || decide (r.1 = []))
def resA (l : List ResT) : Bool := decide (l.length ≤ 10) && l.all resOk
/-- Those of the first k that failed. -/
def failK (l : List ResT) (k : Nat) : List Int := ((List.range k).filter (fun j => decide ((l.getD j noRes).2 = 1))).map Int.ofNat
def failA (l : List ResT) : List Int := if resA l then failK l l.length else []
theorem failK_len (l : List ResT) (k : Nat) : (failK l k).length ≤ k := by
  unfold failK
  rw [List.length_map]
  exact Nat.le_trans (List.length_filter_le _ _) (by simp)
theorem failK_yes {l : List ResT} {k : Nat} (hk : k < l.length) (h : l[k].2 = 1) : failK l (k + 1) = failK l k ++ [(k : Int)] := by
  unfold failK
  rw [List.range_succ, List.filter_append, List.map_append]
  have : (l[k]?.getD noRes).2 = 1 := by rw [List.getElem?_eq_getElem hk]; exact h
  simp [this]
theorem failK_no {l : List ResT} {k : Nat} (hk : k < l.length) (h : l[k].2 ≠ 1) : failK l (k + 1) = failK l k := by
  unfold failK
  rw [List.range_succ, List.filter_append, List.map_append]
  have : ¬ (l[k]?.getD noRes).2 = 1 := by rw [List.getElem?_eq_getElem hk]; exact h
  simp [this]
theorem res_bad {l : List ResT} {k : Nat} (hk : k < l.length) (h : resOk l[k] = false) : resA l = false := by
  unfold resA
  rw [show l.all resOk = false from List.all_eq_false.2 ⟨l[k], List.getElem_mem hk, by simp [h]⟩, Bool.and_false]
theorem res_next {l : List ResT} {k : Nat} (hk : k < l.length) (ha : (l.take k).all resOk = true) (h : resOk l[k] = true) : (l.take (k + 1)).all resOk = true := by
  rw [List.take_succ_eq_append_getElem hk, List.all_append, ha]; simp [h]
theorem res_end {l : List ResT} {k : Nat} (hk : l.length ≤ k) (ha : (l.take k).all resOk = true) : resA l = decide (l.length ≤ 10) := by
  rw [List.take_of_length_le hk] at ha
  unfold resA; rw [ha, Bool.and_true]
theorem resA_small {l : List ResT} (h : resA l = true) : l.length ≤ 10 ∧ ∀ r ∈ l, r.1.length ≤ 40 := by
  unfold resA at h
  simp only [Bool.and_eq_true, decide_eq_true_eq, List.all_eq_true] at h
  refine ⟨h.1, fun r hr => ?_⟩
  have := h.2 r hr
  simp only [resOk, Bool.and_eq_true, decide_eq_true_eq] at this
  exact this.1.2

set_option maxRecDepth 20000 in
set_option maxHeartbeats 2000000 in
theorem specResults_any (l : List ResT) (v : Value) (w : World) (hrow : RowR w v l) (hx : ∀ f ∈ l, f.1.length ≤ maxLen) :
    Calls Tryz.prog 55 #[v] w (BoolPost (resA l) w) := by
  obtain ⟨a, cap, rfl, hc1, hc2, hat⟩ := hrow.res
  clear hrow
  unfold maxLen at hc2 hx
  go_enter Tryz.func55, Tryz.ntmps55
  go_wp2_with fail
  go_loopw [7] (fun i wr => ∃ k : Nat, k ≤ l.length ∧ i = .int .i64 k ∧ Hid (Below w.heap.size w wr) ∧ Hid ((l.take k).all resOk = true)) (fun i _ => l.length - (intOf i).toNat)
  case atStart => exact ⟨0, Nat.zero_le _, rfl, Below.refl _ _, by simp [Hid]⟩
  case round =>
    obtain ⟨k, hk, rfl, HB, HO⟩ := hrel
    have hbs := HB.out.size
    by_cases hlt : k < l.length
    · obtain ⟨g, o, rfl, hg, hcell1, hcell2⟩ := hat k hlt
      have s1 := (HB.out.cell (p := ⟨g, o + k * 2, none⟩) hg).trans hcell1
      have s2 := (HB.out.cell (p := ⟨g, o + k * 2 + 1, none⟩) hg).trans hcell2
      have HBA := Lib.hid (HB.out.alloc hbs (.cells #[.string ⟨l[k].1.toArray⟩, .int .i64 l[k].2] 48))
      have hxl := hx l[k] (List.getElem_mem hlt)
      obtain ⟨b1, hb1⟩ : ∃ b, (decide (0 ≤ l[k].2) && decide (l[k].2 ≤ 2)) = b := ⟨_, rfl⟩
      obtain ⟨b2, hb2⟩ : ∃ b, decide (l[k].1.length ≤ 40) = b := ⟨_, rfl⟩
      obtain ⟨b3, hb3⟩ : ∃ b, decide (l[k].2 = 0) = b := ⟨_, rfl⟩
      obtain ⟨b4, hb4⟩ : ∃ b, decide (l[k].1 = []) = b := ⟨_, rfl⟩
      have HC := Lib.hid (fun W => in_l hb1 W)
      have HS : Hid (if (b1 && b2 && (b3 || b4)) then (l.take (k + 1)).all resOk = true else resA l = false) := by
        unfold Hid
        have hR : resOk l[k] = (b1 && b2 && (b3 || b4)) := by unfold resOk; rw [hb1, hb2, hb3, hb4]
        split
        · rename_i h; exact res_next hlt HO.out (by rw [hR, h])
        · rename_i h; exact res_bad hlt (by rw [hR]; simpa using h)
      have e2 : decide ((l[k].1.length : Int) > 40) = !b2 := by rw [← hb2, Bool.eq_iff_iff]; simp <;> omega
      have e3 : (l[k].2 != 0) = !b3 := by rw [← hb3]; rfl
      have e4 := nil_b hb4
      clear hcell1 hcell2 hat HO hx hb1 hb2 hb3 hb4
      generalize l[k] = x at s1 s2 HC HBA hxl e2 e3 e4
      obtain ⟨x1, x2⟩ := x
      simp only at s1 s2 HC HBA hxl e2 e3 e4
      rcases b1 with _ | _
      · clear e2 e3 e4
        go_wp2_with fail
        refine (HC.out _).mono ?_
        rintro e w1 ⟨rfl, rfl⟩
        go_wp2_with fail
        go_ret
        exact ⟨ret_bool (by have := HS.out; simpa using this.symm), HBA.out⟩
      · rcases b2 with _ | _
        · simp only [Bool.not_false] at e2
          clear e3 e4
          go_wp2_with fail
          refine (HC.out _).mono ?_
          rintro e w1 ⟨rfl, rfl⟩
          go_wp2_with fail
          go_ret
          exact ⟨ret_bool (by have := HS.out; simpa using this.symm), HBA.out⟩
        · simp only [Bool.not_true] at e2
          rcases b3 with _ | _
          · simp only [Bool.not_false] at e3
            rcases b4 with _ | _
            · go_wp2_with fail
              refine (HC.out _).mono ?_
              rintro e w1 ⟨rfl, rfl⟩
              go_wp2_with fail
              go_ret
              exact ⟨ret_bool (by have := HS.out; simpa using this.symm), HBA.out⟩
            · go_wp2_with fail
              refine (HC.out _).mono ?_
              rintro e w1 ⟨rfl, rfl⟩
              go_wp2_with fail
              go_roundw
              case rel => exact ⟨k + 1, by omega, by go_num, HBA, by have := HS.out; simpa [Hid] using this⟩
              case measure => simp [intOf]; omega
          · simp only [Bool.not_true] at e3
            clear e4
            go_wp2_with fail
            refine (HC.out _).mono ?_
            rintro e w1 ⟨rfl, rfl⟩
            go_wp2_with fail
            go_roundw
            case rel => exact ⟨k + 1, by omega, by go_num, HBA, by have := HS.out; simpa [Hid] using this⟩
            case measure => simp [intOf]; omega
    · have HT : Hid (resA l = decide (l.length ≤ 10)) := res_end (by omega) HO.out
      clear HO hat hx
      go_wp2_with fail
      go_ret
      refine ⟨?_, HB.out⟩
      rw [HT.out]
      show Ending.returned (.bool (decide ((l.length : Int) ≤ 10))) = _
      congr 2
      simp only [decide_eq_decide]
      omega

theorem specResults_b {l : List ResT} {b : Bool} (h : resA l = b) (v : Value) (w : World) (hrow : RowR w v l) (hx : ∀ f ∈ l, f.1.length ≤ maxLen) : Calls Tryz.prog 55 #[v] w (BoolPost b w) := by
  have := specResults_any l v w hrow hx; rwa [h] at this

-- the program's
theorem longR_b {x : List UInt8} {b : Bool} (h : decide (x.length ≤ 40) = b) (w : World) (_hl : x.length ≤ maxLen) : Calls Tryz.prog 86 #[.string ⟨x.toArray⟩] w fun e w' => e = .returned (.bool (!b)) ∧ w = w' := by
  go_enter Tryz.func86, Tryz.ntmps86
  go_wp2
  go_ret
  refine ⟨?_, rfl⟩
  congr 2
  rw [← h]
  simp
  rw [Bool.eq_iff_iff]
  simp <;> omega

set_option maxHeartbeats 1000000 in
theorem noRes_b {o : ResT} {b : Bool} (h : resOk o = b) (w : World) (hx : o.1.length ≤ maxLen) :
    Calls Tryz.prog 62 #[resV o] w (BoolPost (!b) w) := by
  obtain ⟨t, n⟩ := o
  subst h
  unfold resV
  simp only at hx ⊢
  have HB := Lib.hid ((Below.refl w.heap.size w).alloc (Nat.le_refl _) (.cells #[.string ⟨t.toArray⟩, .int .i64 n] 48))
  obtain ⟨b2, hb2⟩ : ∃ b, decide (t.length ≤ 40) = b := ⟨_, rfl⟩
  have HC := Lib.hid (fun W => longR_b hb2 W hx)
  unfold maxLen at hx
  by_cases k0 : n = 0
  · subst k0
    have HT : Hid (resOk (t, 0) = b2) := by unfold resOk; rw [hb2]; simp [Hid]
    clear hb2
    go_enter Tryz.func62, Tryz.ntmps62
    go_wp2_with fail
    refine (HC.out _).mono ?_
    rintro e w1 ⟨rfl, rfl⟩
    go_wp2_with fail
    go_ret
    exact ⟨by rw [HT.out] <;> rfl, HB.out⟩
  have e0 : (n == 0) = false := by simpa using k0
  obtain ⟨b4, hb4⟩ : ∃ b, decide (t = []) = b := ⟨_, rfl⟩
  have e4 := nil_b hb4
  have hle : b4 = true → b2 = true := by rintro rfl; rw [← hb2]; have := of_decide_eq_true hb4; rw [this]; rfl
  by_cases k12 : n = 1 ∨ n = 2
  · have HT : Hid (resOk (t, n) = b4) := by
      unfold resOk; rw [hb2, hb4]
      rcases k12 with rfl | rfl <;> (cases b4 <;> simp_all [Hid])
    clear hb2 hb4 hle HC e0 k0
    rcases k12 with rfl | rfl <;> rcases b4 with _ | _ <;>
      (go_enter Tryz.func62, Tryz.ntmps62
       go_wp2_with fail
       go_ret
       exact ⟨by rw [HT.out] <;> rfl, HB.out⟩)
  · have HT : Hid (resOk (t, n) = false) := by
      unfold resOk Hid
      have : (decide (0 ≤ n) && decide (n ≤ 2)) = false := by simp; omega
      rw [this]; rfl
    have e1 : (n != 1) = true := by simp; omega
    have e2 : (n != 2) = true := by simp; omega
    clear hb2 hb4 hle HC k0 e4 k12
    go_enter Tryz.func62, Tryz.ntmps62
    go_wp2_with fail
    go_ret
    exact ⟨by rw [HT.out] <;> rfl, HB.out⟩

/-- Whether one is none. -/
def noneL (l : List ResT) : Bool := l.any (fun r => !resOk r)
theorem none_at {l : List ResT} {k : Nat} (h : k < l.length) (hx : resOk l[k] = false) : noneL l = true := by
  rw [noneL, List.any_eq_true]
  exact ⟨l[k], List.getElem_mem h, by simp [hx]⟩
theorem none_all {l : List ResT} (h : l.all resOk = true) : noneL l = false := by
  rw [noneL, List.any_eq_false]
  intro x hm
  have := List.all_eq_true.1 h x hm
  simp [this]

theorem resA_is (l : List ResT) : resA l = (decide (l.length ≤ 10) && !noneL l) := by
  unfold resA
  rcases h : l.all resOk with _ | _
  · obtain ⟨x, hm, hx⟩ := List.all_eq_false.1 h
    have : noneL l = true := by rw [noneL, List.any_eq_true]; exact ⟨x, hm, by simpa using hx⟩
    rw [this]; rfl
  · rw [none_all h]; rfl

end Go.Proofs.YtngldlconipnnaaGreat

/- Walks: the law that those that failed are told alike. -/
namespace Go.Proofs.YtngldlconipnnaaGreat
open Go.RowKit Pth

/-- The law says yes, and nothing that lay there has turned. -/
def YesW (w : World) (e : Ending) (w' : World) : Prop := e = .returned (.bool true) ∧ Below w.heap.size w w'
theorem failA_short (l : List ResT) : (failA l).length ≤ 10 := by
  unfold failA
  split
  · rename_i h
    have := (resA_small h).1
    have := failK_len l l.length
    omega
  · simp
/-- A list that another list's block is no part of. -/
theorem own_besideR {w w' : World} {B1 e n : Nat} {v u : Value} {xs : List Value} (h : w.ownsRow B1 e 1 v n xs) (hg : w.grownBy w' u.ownBlock) (hu : ∀ k, u.ownBlock = some k → k < B1) : w'.ownsRow B1 e 1 v n xs := by
  refine h.kept hg ?_
  rcases hv : v.ownBlock with _ | k
  · exact .inl rfl
  · refine .inr (fun e => ?_)
    have h1 := (h.lt k hv).1
    have h2 := hu k e.symm
    omega
end Go.Proofs.YtngldlconipnnaaGreat

/- Walks: whether there is such a task, where it stands. -/
namespace Go.Proofs.YtngldlconipnnaaGreat
open Go.RowKit Pth

/-- There is such a task, in a good graph. -/
noncomputable def taskG (ls : List (List Int)) (l : List Int) (k : Int) : Bool := goodG ls l && (decide (0 ≤ k) && decide (k < (ls.length : Int)))
theorem taskG_yes {ls : List (List Int)} {l : List Int} {k : Int} (h : taskG ls l k = true) : GoodG ls l ∧ 0 ≤ k ∧ k < (ls.length : Int) := by
  unfold taskG at h
  simp only [Bool.and_eq_true, decide_eq_true_eq] at h
  exact ⟨goodG_iff.1 h.1, h.2⟩
theorem taskG_good {ls : List (List Int)} {l : List Int} {k : Int} (h : goodG ls l = false) : taskG ls l k = false := by unfold taskG; rw [h]; rfl
theorem taskG_in {ls : List (List Int)} {l : List Int} {k : Int} (h : goodG ls l = true) : taskG ls l k = (decide (0 ≤ k) && decide (k < (ls.length : Int))) := by unfold taskG; rw [h]; rfl

theorem l1In_task {k : Int} {n : Nat} {w : World} {b : Bool} (h : (decide (0 ≤ k) && decide (k < (n : Int))) = b) :
    Calls Tryz.prog 77 #[.int .i64 k, .int .i64 0, .int .i64 ((n : Int) - 1)] w fun e w' => e = .returned (.bool b) ∧ w = w' := by
  have e : (decide (0 ≤ k) && decide (k ≤ (n : Int) - 1)) = b := by rw [← h, Bool.eq_iff_iff]; simp; omega
  have := l1In_any k 0 ((n : Int) - 1) w
  rw [e] at this
  exact this

/-- Where a task stands, and whether there is such a one. -/
noncomputable def placeA (ls : List (List Int)) (l : List Int) (k : Int) : Int := if taskG ls l k then placeI l k else 0
def PlacePost (ls : List (List Int)) (l : List Int) (k : Int) (w : World) (e : Ending) (w' : World) : Prop := e = .returned (.tuple #[.int .i64 (placeA ls l k), .bool (taskG ls l k)]) ∧ Below w.heap.size w w'

end Go.Proofs.YtngldlconipnnaaGreat

/- Plain mathematics of ways of needs: how far, by a queue and along the order; no program. -/
namespace Go.Proofs.YtngldlconipnnaaGreat
namespace Pth

/-- What a task needs. -/
def needsAt (ls : List (List Int)) (k : Int) : List Int := ls.getD k.toNat []
theorem needsAt_get {ls : List (List Int)} {k : Nat} (hk : k < ls.length) : needsAt ls k = ls[k] := by
  unfold needsAt; simp [hk]
/-- So many needs lead from a task to t. -/
def Way (ls : List (List Int)) (t : Int) : Nat → Int → Prop
  | 0, k => k = t
  | m + 1, k => ∃ x ∈ needsAt ls k, Way ls t m x
/-- How many at least, -1 for none. -/
def IsFar (ls : List (List Int)) (t k d : Int) : Prop := (∃ m : Nat, d = m ∧ Way ls t m k ∧ ∀ j, j < m → ¬ Way ls t j k) ∨ (d = -1 ∧ ∀ m, ¬ Way ls t m k)
theorem far_exists (ls : List (List Int)) (t k : Int) : ∃ d, IsFar ls t k d := by
  rcases Classical.em (∃ m, Way ls t m k) with ⟨m, hm⟩ | h
  · induction m using Nat.strongRecOn with
    | ind m ih =>
      rcases Classical.em (∃ j, j < m ∧ Way ls t j k) with ⟨j, hj, hw⟩ | h
      · exact ih j hj hw
      · exact ⟨m, .inl ⟨m, rfl, hm, fun j hj hw => h ⟨j, hj, hw⟩⟩⟩
  · exact ⟨-1, .inr ⟨rfl, fun m hm => h ⟨m, hm⟩⟩⟩
theorem far_one {ls : List (List Int)} {t k d e : Int} (h : IsFar ls t k d) (h' : IsFar ls t k e) : d = e := by
  rcases h with ⟨m, rfl, h1, h2⟩ | ⟨rfl, h1⟩ <;> rcases h' with ⟨m', rfl, h1', h2'⟩ | ⟨rfl, h1'⟩
  · rcases Nat.lt_trichotomy m m' with h | h | h
    · exact absurd h1 (h2' m h)
    · rw [h]
    · exact absurd h1' (h2 m' h)
  · exact absurd h1 (h1' m)
  · exact absurd h1' (h1 m')
  · rfl
noncomputable def farI (ls : List (List Int)) (t k : Int) : Int := Classical.choose (far_exists ls t k)
theorem farI_is (ls : List (List Int)) (t k : Int) : IsFar ls t k (farI ls t k) := Classical.choose_spec (far_exists ls t k)
theorem farI_eq {ls : List (List Int)} {t k d : Int} (h : IsFar ls t k d) : farI ls t k = d := far_one (farI_is ls t k) h
theorem farI_low (ls : List (List Int)) (t k : Int) : -1 ≤ farI ls t k := by
  rcases farI_is ls t k with ⟨m, h, _⟩ | ⟨h, _⟩ <;> omega
theorem farI_self (ls : List (List Int)) (t : Int) : farI ls t t = 0 := farI_eq (.inl ⟨0, rfl, rfl, fun j hj => by omega⟩)
theorem farI_zero {ls : List (List Int)} {t k : Int} (h : farI ls t k = 0) : k = t := by
  rcases farI_is ls t k with ⟨m, hm, h1, _⟩ | ⟨hm, _⟩
  · have : m = 0 := by omega
    subst this; exact h1
  · omega
theorem farI_le {ls : List (List Int)} {t k : Int} {m : Nat} (h : Way ls t m k) : 0 ≤ farI ls t k ∧ farI ls t k ≤ m := by
  rcases farI_is ls t k with ⟨j, hj, h1, h2⟩ | ⟨_, h1⟩
  · rcases Nat.lt_or_ge m j with h' | h'
    · exact absurd h (h2 m h')
    · omega
  · exact absurd h (h1 m)
theorem farI_way {ls : List (List Int)} {t k : Int} (h : 0 ≤ farI ls t k) : Way ls t (farI ls t k).toNat k := by
  rcases farI_is ls t k with ⟨j, hj, h1, h2⟩ | ⟨h', _⟩
  · rw [hj]; exact h1
  · omega
/-- The next one on a shortest way. -/
theorem far_next {ls : List (List Int)} {t k : Int} {m : Nat} (h : farI ls t k = (m : Int) + 1) : ∃ x ∈ needsAt ls k, farI ls t x = m := by
  have hw := farI_way (ls := ls) (t := t) (k := k) (by omega)
  rw [h, show ((m : Int) + 1).toNat = m + 1 by omega] at hw
  obtain ⟨x, hx, hxw⟩ := hw
  refine ⟨x, hx, ?_⟩
  have h1 := farI_le hxw
  by_cases h' : farI ls t x < m
  · have h2 := farI_way h1.1
    have h3 : Way ls t ((farI ls t x).toNat + 1) k := ⟨x, hx, h2⟩
    have h4 := farI_le h3
    omega
  · omega
theorem far_edge {ls : List (List Int)} {t k x : Int} (hx : x ∈ needsAt ls k) (h : 0 ≤ farI ls t x) : 0 ≤ farI ls t k ∧ farI ls t k ≤ farI ls t x + 1 := by
  have h3 : Way ls t ((farI ls t x).toNat + 1) k := ⟨x, hx, farI_way h⟩
  have h4 := farI_le h3
  omega

/-- The next ones least. -/
noncomputable def nextI (ls : List (List Int)) (t k : Int) : Int := ((needsAt ls k).find? (fun x => decide (farI ls t x = farI ls t k - 1))).getD t
noncomputable def wayL (ls : List (List Int)) (t : Int) : Nat → Int → List Int
  | 0, k => [k]
  | m + 1, k => k :: wayL ls t m (nextI ls t k)
theorem next_at {ls : List (List Int)} {t k : Int} {j : Nat} (hj : j < (needsAt ls k).length) (h : ∀ i (hi : i < j), farI ls t (needsAt ls k)[i] ≠ farI ls t k - 1) (he : farI ls t (needsAt ls k)[j] = farI ls t k - 1) : nextI ls t k = (needsAt ls k)[j] := by
  have : (needsAt ls k).find? (fun x => decide (farI ls t x = farI ls t k - 1)) = some (needsAt ls k)[j] := by
    rw [List.find?_eq_some_iff_getElem]
    refine ⟨by simpa using he, j, hj, rfl, fun i hi => ?_⟩
    have := h i hi
    simpa using this
  unfold nextI
  rw [this]; rfl
theorem next_far {ls : List (List Int)} {t k : Int} {m : Nat} (h : farI ls t k = (m : Int) + 1) : farI ls t (nextI ls t k) = m ∧ nextI ls t k ∈ needsAt ls k := by
  obtain ⟨x, hx, hf⟩ := far_next h
  have : ((needsAt ls k).find? (fun x => decide (farI ls t x = farI ls t k - 1))).isSome = true := by
    rw [List.find?_isSome]
    exact ⟨x, hx, by simp; omega⟩
  obtain ⟨y, hy⟩ := Option.isSome_iff_exists.1 this
  have h1 := List.find?_some hy
  have h2 := List.mem_of_find?_eq_some hy
  simp only [decide_eq_true_eq] at h1
  unfold nextI
  rw [hy]
  exact ⟨by simp only [Option.getD_some]; omega, h2⟩
theorem wayL_len (ls : List (List Int)) (t : Int) (m : Nat) (k : Int) : (wayL ls t m k).length = m + 1 := by
  induction m generalizing k with
  | zero => rfl
  | succ m ih => rw [wayL, List.length_cons, ih]

/-- What the queue keeps while one is looked at: those that are behind it, those that are left. -/
structure Spread (ls : List (List Int)) (t : Int) (out : List Int) (all : List Int) : Prop where
  len : out.length = ls.length
  self : t ∈ all ∧ out.getD t.toNat (-1) = 0
  sound : ∀ k : Nat, k < ls.length → (out.getD k (-1) = -1 ∧ (k : Int) ∉ all) ∨ (0 ≤ out.getD k (-1) ∧ (k : Int) ∈ all ∧ Way ls t (out.getD k (-1)).toNat k)
  range : ∀ k ∈ all, 0 ≤ k ∧ k < (ls.length : Int)
  nodup : all.Nodup
/-- How far by the list so far. -/
def at' (out : List Int) (k : Int) : Int := out.getD k.toNat (-1)
structure Front (ls : List (List Int)) (t : Int) (out : List Int) (done queue : List Int) : Prop where
  spread : Spread ls t out (done ++ queue)
  sorted : queue.Pairwise (fun a b => at' out a ≤ at' out b)
  near : ∀ q r, queue = q :: r → ∀ p ∈ done ++ queue, at' out p ≤ at' out q + 1
  closed : ∀ x ∈ done, ∀ k : Nat, (hk : k < ls.length) → x ∈ ls[k] → (k : Int) ∈ done ++ queue ∧ at' out k ≤ at' out x + 1
structure Inner (ls : List (List Int)) (t : Int) (out : List Int) (done : List Int) (x : Int) (d : Int) (queue us : List Int) : Prop where
  spread : Spread ls t out (done ++ x :: queue)
  dist : at' out x = d
  d0 : 0 ≤ d
  sorted : queue.Pairwise (fun a b => at' out a ≤ at' out b)
  least : ∀ q ∈ queue, d ≤ at' out q
  near : ∀ p ∈ done ++ x :: queue, at' out p ≤ d + 1
  closed : ∀ y ∈ done, ∀ k : Nat, (hk : k < ls.length) → y ∈ ls[k] → (k : Int) ∈ done ++ x :: queue ∧ at' out k ≤ at' out y + 1
  seen : ∀ k ∈ us, k ∈ done ++ x :: queue

theorem at_start {n : Nat} {t : Nat} (ht : t < n) (k : Nat) (hk : k < n) : ((List.replicate n (-1 : Int)).set t 0).getD k (-1) = if k = t then 0 else -1 := by
  rw [List.getD_eq_getElem?_getD, List.getElem?_set]
  by_cases h : t = k
  · subst h; simp [ht]
  · rw [if_neg h, if_neg (fun e => h e.symm)]; simp [hk]
theorem Front.start {ls : List (List Int)} {t : Nat} (ht : t < ls.length) : Front ls t ((List.replicate ls.length (-1)).set t 0) [] [(t : Int)] := by
  refine ⟨⟨by simp, ⟨by simp, ?_⟩, fun k hk => ?_, fun k hk => ?_, by simp⟩, by simp, fun q r h p hp => ?_, by simp⟩
  · rw [show ((t : Int)).toNat = t by omega, at_start ht t ht, if_pos rfl]
  · rw [at_start ht k hk]
    by_cases h : k = t
    · subst h; rw [if_pos rfl]; exact .inr ⟨by omega, by simp, rfl⟩
    · rw [if_neg h]; exact .inl ⟨rfl, by simp; omega⟩
  · simp at hk; omega
  · simp only [List.nil_append, List.mem_singleton] at hp
    injection h with h1 h2
    rw [hp, ← h1]; omega
theorem Front.open {ls : List (List Int)} {t : Int} {out done queue : List Int} {x : Int} (h : Front ls t out done (x :: queue)) : Inner ls t out done x (at' out x) queue [] := by
  have hx := h.spread.range x (by simp)
  have h2 := List.pairwise_cons.1 h.sorted
  refine ⟨h.spread, rfl, ?_, h2.2, fun q hq => h2.1 q hq, fun p hp => h.near x queue rfl p hp, h.closed, by simp⟩
  rcases h.spread.sound x.toNat (by omega) with h3 | h3
  · rw [show ((x.toNat : Nat) : Int) = x by omega] at h3; exact absurd (by simp) h3.2
  · exact h3.1
theorem Inner.close {ls : List (List Int)} {t : Int} {out done queue us : List Int} {x d : Int} (h : Inner ls t out done x d queue us) (hus : ∀ k : Nat, (hk : k < ls.length) → x ∈ ls[k] → (k : Int) ∈ us) : Front ls t out (done ++ [x]) queue := by
  have e : done ++ [x] ++ queue = done ++ x :: queue := by simp
  refine ⟨by rw [e]; exact h.spread, h.sorted, fun q r hq p hp => ?_, fun y hy k hk hm => ?_⟩
  · rw [e] at hp
    have h1 := h.near p hp
    have h2 := h.least q (by rw [hq]; simp)
    omega
  · rw [e]
    rw [List.mem_append, List.mem_singleton] at hy
    rcases hy with hy | rfl
    · exact h.closed y hy k hk hm
    · have := h.seen k (hus k hk hm)
      exact ⟨this, by have := h.near k this; rw [h.dist]; exact this⟩
theorem Inner.skip {ls : List (List Int)} {t : Int} {out done queue us : List Int} {x d : Int} {k : Nat} (h : Inner ls t out done x d queue us) (hk : k < ls.length) (hs : ¬ at' out k < 0) : Inner ls t out done x d queue (us ++ [(k : Int)]) := by
  refine ⟨h.spread, h.dist, h.d0, h.sorted, h.least, h.near, h.closed, fun j hj => ?_⟩
  rw [List.mem_append, List.mem_singleton] at hj
  rcases hj with hj | rfl
  · exact h.seen j hj
  · rcases h.spread.sound k hk with h1 | h1
    · exact absurd (show at' out k < 0 by unfold at'; rw [show ((k : Int)).toNat = k by omega, h1.1]; omega) hs
    · exact h1.2.1
theorem set_at {out : List Int} {k j : Nat} {e : Int} (hk : k < out.length) : (out.set k e).getD j (-1) = if j = k then e else out.getD j (-1) := by
  rw [List.getD_eq_getElem?_getD, List.getElem?_set, List.getD_eq_getElem?_getD]
  by_cases h : k = j
  · subst h; simp [hk]
  · rw [if_neg h, if_neg (fun e => h e.symm)]
theorem Inner.put {ls : List (List Int)} {t : Int} {out done queue us : List Int} {x d : Int} {k : Nat} (h : Inner ls t out done x d queue us) (hk : k < ls.length) (hm : x ∈ ls[k]) (hs : at' out k < 0) :
    Inner ls t (out.set k (d + 1)) done x d (queue ++ [(k : Int)]) (us ++ [(k : Int)]) := by
  have hkl : k < out.length := by rw [h.spread.len]; exact hk
  have hno : (k : Int) ∉ done ++ x :: queue := by
    rcases h.spread.sound k hk with h1 | h1
    · exact h1.2
    · exact absurd h1.1 (by unfold at' at hs; rw [show ((k : Int)).toNat = k by omega] at hs; omega)
  have e : done ++ x :: (queue ++ [(k : Int)]) = (done ++ x :: queue) ++ [(k : Int)] := by simp
  have same : ∀ p ∈ done ++ x :: queue, at' (out.set k (d + 1)) p = at' out p := by
    intro p hp
    have hr := h.spread.range p hp
    unfold at'
    rw [set_at hkl, if_neg]
    intro he
    exact hno (by rw [← he, show ((p.toNat : Nat) : Int) = p by omega]; exact hp)
  have new : at' (out.set k (d + 1)) k = d + 1 := by
    unfold at'
    rw [show ((k : Int)).toNat = k by omega, set_at hkl, if_pos rfl]
  have hx := h.spread.range x (by simp)
  have hway : Way ls t d.toNat x := by
    rcases h.spread.sound x.toNat (by omega) with h1 | h1
    · rw [show ((x.toNat : Nat) : Int) = x by omega] at h1; exact absurd (by simp) h1.2
    · have := h1.2.2
      rw [show ((x.toNat : Nat) : Int) = x by omega] at this
      have hd := h.dist
      unfold at' at hd
      rw [hd] at this; exact this
  have d0 := h.d0
  refine ⟨⟨by rw [List.length_set]; exact h.spread.len, ⟨by rw [e]; exact List.mem_append.2 (.inl h.spread.self.1), ?_⟩, fun j hj => ?_, fun j hj => ?_, ?_⟩, by rw [same x (by simp)]; exact h.dist, d0, ?_, fun q hq => ?_, fun p hp => ?_, fun y hy j hj hym => ?_, fun j hj => ?_⟩
  · have := same t h.spread.self.1
    unfold at' at this
    rw [this]; exact h.spread.self.2
  · rw [e, set_at hkl]
    by_cases hjk : j = k
    · subst hjk
      rw [if_pos rfl]
      refine .inr ⟨by omega, by simp, ?_⟩
      rw [show (d + 1).toNat = d.toNat + 1 by omega]
      exact ⟨x, by rw [needsAt_get hj]; exact hm, hway⟩
    · rw [if_neg hjk]
      rcases h.spread.sound j hj with h1 | h1
      · exact .inl ⟨h1.1, by rw [List.mem_append, List.mem_singleton]; rintro (h2 | h2); exact h1.2 h2; omega⟩
      · exact .inr ⟨h1.1, List.mem_append.2 (.inl h1.2.1), h1.2.2⟩
  · rw [e, List.mem_append, List.mem_singleton] at hj
    rcases hj with hj | rfl
    · exact h.spread.range j hj
    · omega
  · rw [e, List.nodup_append]
    refine ⟨h.spread.nodup, by simp, fun a ha b hb => ?_⟩
    rw [List.mem_singleton] at hb
    rintro rfl
    exact hno (by rw [← hb]; exact ha)
  · rw [List.pairwise_append]
    refine ⟨h.sorted.imp_of_mem (fun ha hb hab => by rw [same _ (by simp [ha]), same _ (by simp [hb])]; exact hab), by simp, fun a ha b hb => ?_⟩
    rw [List.mem_singleton] at hb
    rw [hb, new, same a (by simp [ha])]
    exact h.near a (by simp [ha])
  · rw [List.mem_append, List.mem_singleton] at hq
    rcases hq with hq | rfl
    · rw [same q (by simp [hq])]; exact h.least q hq
    · rw [new]; omega
  · rw [e, List.mem_append, List.mem_singleton] at hp
    rcases hp with hp | rfl
    · rw [same p hp]; exact h.near p hp
    · rw [new]; omega
  · obtain ⟨h1, h2⟩ := h.closed y hy j hj hym
    rw [e, same _ h1, same y (by simp [hy])]
    exact ⟨List.mem_append.2 (.inl h1), h2⟩
  · rw [e, List.mem_append]
    rw [List.mem_append] at hj
    rcases hj with hj | hj
    · exact .inl (h.seen j hj)
    · exact .inr hj
/-- Where the queue is empty, all is known. -/
theorem Front.done {ls : List (List Int)} {t : Int} {out done : List Int} (hin : ∀ k (hk : k < ls.length), ∀ x ∈ ls[k], 0 ≤ x ∧ x < (ls.length : Int)) (h : Front ls t out done []) : out = (upto ls.length).map (farI ls t) := by
  have hle : ∀ m : Nat, ∀ k : Nat, k < ls.length → Way ls t m k → 0 ≤ out.getD k (-1) ∧ out.getD k (-1) ≤ m := by
    intro m
    induction m with
    | zero =>
      intro k hk hw
      have : (k : Int) = t := hw
      have h1 := h.spread.self.2
      rw [← this, show ((k : Int)).toNat = k by omega] at h1
      rw [h1]; omega
    | succ m ih =>
      intro k hk hw
      obtain ⟨x, hx, hxw⟩ := hw
      rw [needsAt_get hk] at hx
      have hxr := hin k hk x hx
      have hxe : ((x.toNat : Nat) : Int) = x := by omega
      have h1 := ih x.toNat (by omega) (by rw [hxe]; exact hxw)
      have h2 : x ∈ done := by
        rcases h.spread.sound x.toNat (by omega) with h3 | h3
        · omega
        · have := h3.2.1; rw [hxe, List.append_nil] at this; exact this
      obtain ⟨h3, h4⟩ := h.closed x h2 k hk hx
      unfold at' at h4
      rw [show ((k : Int)).toNat = k by omega] at h4
      rcases h.spread.sound k hk with h5 | h5
      · exact absurd h3 h5.2
      · omega
  apply List.ext_getElem (by rw [h.spread.len, List.length_map, upto_len])
  intro k h1 h2
  have hk : k < ls.length := by rw [h.spread.len] at h1; exact h1
  rw [List.getElem_map, upto_get]
  symm
  apply farI_eq
  have hg : out.getD k (-1) = out[k] := by rw [List.getD_eq_getElem?_getD, List.getElem?_eq_getElem h1]; rfl
  rcases h.spread.sound k hk with h3 | h3
  · refine .inr ⟨by rw [← hg]; exact h3.1, fun m hw => ?_⟩
    have := hle m k hk hw
    omega
  · refine .inl ⟨(out.getD k (-1)).toNat, by rw [← hg]; omega, h3.2.2, fun j hj hw => ?_⟩
    have := hle j k hk hw
    omega
theorem Front.room {ls : List (List Int)} {t : Int} {out done queue : List Int} (h : Front ls t out done queue) : done.length + queue.length ≤ ls.length := by
  have := nodup_sub (a := done ++ queue) (b := upto ls.length) h.spread.nodup (fun x hx => mem_upto.2 (h.spread.range x hx))
  rw [upto_len, List.length_append] at this
  exact this
end Pth
end Go.Proofs.YtngldlconipnnaaGreat

/- Walks: what blocks a task, and what goes into it, of the reference and of the program. -/
namespace Go.Proofs.YtngldlconipnnaaGreat
open Go.RowKit Pth

/-- A plan and results of it. -/
noncomputable def bothA (ls : List (List Int)) (l : List Int) (bs : List Bool) (rs : List (List OpT)) (m : List ResT) : Bool := planA ls l bs rs && (resA m && decide (m.length = bs.length))
noncomputable def inA (ls : List (List Int)) (l : List Int) (bs : List Bool) (rs : List (List OpT)) (m : List ResT) (t : Int) : Bool := bothA ls l bs rs m && (decide (0 ≤ t) && decide (t < (bs.length : Int)))
/-- The result of a task. -/
def resAt (m : List ResT) (t : Int) : ResT := m.getD t.toNat noRes
/-- The first of some that is not well. -/
def firstL (m : List ResT) (ns : List Int) : Int × Bool := match ns.find? (fun k => decide ((resAt m k).2 ≠ 0)) with | some k => (k, true) | none => (0, false)
noncomputable def blockA (ls : List (List Int)) (l : List Int) (bs : List Bool) (rs : List (List OpT)) (m : List ResT) (t : Int) : Int × Bool :=
  if inA ls l bs rs m t && decide ((resAt m t).2 = 2) then firstL m (needsAt ls t) else (0, false)
/-- What goes into a task. -/
def bodiesL (m : List ResT) (ns : List Int) : List (List UInt8) := ns.map (fun k => (resAt m k).1)
noncomputable def insA (ls : List (List Int)) (l : List Int) (bs : List Bool) (rs : List (List OpT)) (m : List ResT) (t : Int) : List (List UInt8) :=
  if inA ls l bs rs m t then bodiesL m (needsAt ls t) else []
theorem both_parts {ls : List (List Int)} {l : List Int} {bs : List Bool} {rs : List (List OpT)} {m : List ResT} (h : bothA ls l bs rs m = true) : planA ls l bs rs = true ∧ resA m = true ∧ m.length = bs.length := by
  unfold bothA at h
  simp only [Bool.and_eq_true, decide_eq_true_eq] at h
  exact ⟨h.1, h.2.1, h.2.2⟩
theorem resAt_nat {m : List ResT} {k : Nat} (h : k < m.length) : resAt m (k : Int) = m[k] := by
  unfold resAt; rw [Int.toNat_natCast, getD_at _ h]
theorem first_yes {m : List ResT} {ns : List Int} {k : Nat} (hk : k < ns.length) (ho : ∀ x ∈ ns.take k, (resAt m x).2 = 0) (h : (resAt m ns[k]).2 ≠ 0) : firstL m ns = (ns[k], true) := by
  have e : ns = ns.take k ++ ns[k] :: ns.drop (k + 1) := by rw [← List.drop_eq_getElem_cons hk, List.take_append_drop]
  have hf : ns.find? (fun k => decide ((resAt m k).2 ≠ 0)) = some ns[k] := by
    conv => lhs; rw [e]
    rw [List.find?_append, List.find?_eq_none.2 (by intro x hx; simp [ho x hx]), List.find?_cons_of_pos (by simpa using h)]
    rfl
  unfold firstL; rw [hf]
theorem first_no {m : List ResT} {ns : List Int} (ho : ∀ x ∈ ns, (resAt m x).2 = 0) : firstL m ns = (0, false) := by
  unfold firstL; rw [List.find?_eq_none.2 (by intro x hx; simp [ho x hx])]
theorem bodies_next {m : List ResT} {ns : List Int} {k : Nat} (hk : k < ns.length) : bodiesL m (ns.take (k + 1)) = bodiesL m (ns.take k) ++ [(resAt m ns[k]).1] := by
  unfold bodiesL; rw [List.take_succ_eq_append_getElem hk, List.map_append]; rfl
theorem bodies_len (m : List ResT) (ns : List Int) : (bodiesL m ns).length = ns.length := by simp [bodiesL]
theorem take_zero {m : List ResT} {ns : List Int} {k : Nat} (hk : k < ns.length) (ho : ∀ x ∈ ns.take k, (resAt m x).2 = 0) (h : (resAt m ns[k]).2 = 0) : ∀ x ∈ ns.take (k + 1), (resAt m x).2 = 0 := by
  intro x hx
  rw [List.take_succ_eq_append_getElem hk, List.mem_append, List.mem_singleton] at hx
  rcases hx with hx | rfl
  · exact ho x hx
  · exact h
theorem plan_task {ls : List (List Int)} {l : List Int} {bs : List Bool} {rs : List (List OpT)} (h : planA ls l bs rs = true) {k : Nat} (hk : k < ls.length) : ls[k].length ≤ 10 ∧ ∀ x ∈ ls[k], 0 ≤ x ∧ x < (ls.length : Int) := by
  have hg := (plan_parts h).1
  have hw := (hg.each k hk).1
  refine ⟨?_, fun x hx => ?_⟩
  · have := rise_len hw.1 hw.2 (by have := hg.low; omega)
    have := hg.high
    omega
  · have := hw.2 x hx
    omega
/-- A number and whether it stands. -/
def NumOk (r : Int × Bool) (w : World) (e : Ending) (w' : World) : Prop := e = .returned (.tuple #[.int .i64 r.1, .bool r.2]) ∧ Below w.heap.size w w'
/-- Texts and whether they stand. -/
def TextsOk (l : List (List UInt8)) (ok : Bool) (w : World) (e : Ending) (w' : World) : Prop :=
  ∃ v, e = .returned (.tuple #[v, .bool ok]) ∧ w'.ownsRow w.heap.size 9 1 v l.length (S l) ∧ Below w.heap.size w w'

theorem own_S2 {w : World} {B e : Nat} {v : Value} {l : List (List UInt8)} {x : List UInt8} (h : w.ownsRow B e 1 v (S l ++ [Value.string ⟨x.toArray⟩]).length (S l ++ [Value.string ⟨x.toArray⟩])) : w.ownsRow B e 1 v (l ++ [x]).length (S (l ++ [x])) := by
  rw [← S_len, S_append]; exact h

end Go.Proofs.YtngldlconipnnaaGreat

/- Walks: whether the bodies of sources are good, of the reference and of the program. -/
namespace Go.Proofs.YtngldlconipnnaaGreat
open Go.RowKit Pth

def srcP (bs : List Bool) (ts : List (List UInt8)) (k : Nat) : Bool := decide ((ts.getD k []).length ≤ 40) && (bs.getD k false || decide (ts.getD k [] = []))
noncomputable def srcA (ls : List (List Int)) (l : List Int) (bs : List Bool) (rs : List (List OpT)) (ts : List (List UInt8)) : Bool :=
  planA ls l bs rs && (decide (ts.length = bs.length) && (List.range ts.length).all (srcP bs ts))
theorem srcP_at {bs : List Bool} {ts : List (List UInt8)} {k : Nat} (h1 : k < bs.length) (h2 : k < ts.length) : srcP bs ts k = (decide (ts[k].length ≤ 40) && (bs[k] || decide (ts[k] = []))) := by
  unfold srcP; rw [getD_at _ h1, getD_at _ h2]
theorem src_noP {ls : List (List Int)} {l : List Int} {bs : List Bool} {rs : List (List OpT)} {ts : List (List UInt8)} (h : planA ls l bs rs = false) : srcA ls l bs rs ts = false := by unfold srcA; rw [h]; rfl
theorem src_noL {ls : List (List Int)} {l : List Int} {bs : List Bool} {rs : List (List OpT)} {ts : List (List UInt8)} (h : ts.length ≠ bs.length) : srcA ls l bs rs ts = false := by unfold srcA; rw [decide_eq_false h]; simp
theorem src_bad {ls : List (List Int)} {l : List Int} {bs : List Bool} {rs : List (List OpT)} {ts : List (List UInt8)} {k : Nat} (hk : k < ts.length) (h : srcP bs ts k = false) : srcA ls l bs rs ts = false := by
  have : (List.range ts.length).all (srcP bs ts) = false := List.all_eq_false.2 ⟨k, by simpa using hk, by simp [h]⟩
  unfold srcA; rw [this]; simp
theorem src_next {bs : List Bool} {ts : List (List UInt8)} {k : Nat} (h : ∀ j, j < k → srcP bs ts j = true) (hp : srcP bs ts k = true) : ∀ j, j < k + 1 → srcP bs ts j = true := by
  intro j hj
  by_cases e : j = k
  · rw [e]; exact hp
  · exact h j (by omega)
theorem src_end {ls : List (List Int)} {l : List Int} {bs : List Bool} {rs : List (List OpT)} {ts : List (List UInt8)} {k : Nat} (hk : ts.length ≤ k) (hg : planA ls l bs rs = true) (h1 : ts.length = bs.length) (h : ∀ j, j < k → srcP bs ts j = true) : srcA ls l bs rs ts = true := by
  have : (List.range ts.length).all (srcP bs ts) = true := List.all_eq_true.2 (fun j hj => h j (by simp at hj; omega))
  unfold srcA; rw [hg, decide_eq_true h1, this]; rfl
theorem src_parts {ls : List (List Int)} {l : List Int} {bs : List Bool} {rs : List (List OpT)} {ts : List (List UInt8)} (h : srcA ls l bs rs ts = true) : planA ls l bs rs = true ∧ ts.length = bs.length ∧ ∀ k, k < ts.length → srcP bs ts k = true := by
  unfold srcA at h
  simp only [Bool.and_eq_true, decide_eq_true_eq, List.all_eq_true, List.mem_range] at h
  exact ⟨h.1, h.2.1, h.2.2⟩

end Go.Proofs.YtngldlconipnnaaGreat

/- What tasks come to along the order, as mathematics. -/
namespace Go.Proofs.YtngldlconipnnaaGreat
open Go.RowKit Pth

/-- What a task comes out as. -/
def madeR (blocked did : Bool) (t : List UInt8) : ResT := if blocked then ([], 2) else if did then (t, 0) else ([], 1)
/-- What is made of results as they are. -/
def makeM (ls : List (List Int)) (rs : List (List OpT)) (m : List ResT) (k : Nat) : ResT :=
  madeR (firstL m (ls.getD k [])).2 (Pth.runT (bodiesL m (ls.getD k [])) (rs.getD k []) []).isSome (txtO (Pth.runT (bodiesL m (ls.getD k [])) (rs.getD k []) []))
/-- What a task is to be. -/
def oneM (ls : List (List Int)) (bs : List Bool) (rs : List (List OpT)) (ts : List (List UInt8)) (m : List ResT) (k : Nat) : ResT :=
  if bs.getD k false then (ts.getD k [], 0) else makeM ls rs m k
/-- Results of at most so many bytes. -/
def Sml (m : List ResT) : Prop := ∀ f ∈ m, f.1.length ≤ 40
theorem Sml.set {m : List ResT} (h : Sml m) {r : ResT} (hr : r.1.length ≤ 40) (k : Nat) : Sml (m.set k r) := by
  intro f hf
  rcases List.mem_or_eq_of_mem_set hf with h1 | h1
  · exact h f h1
  · rw [h1]; exact hr
theorem sml_none (n : Nat) : Sml (List.replicate n noRes) := by
  intro f hf; rw [(List.mem_replicate.1 hf).2]; simp [noRes]
theorem madeR_len {b d : Bool} {t : List UInt8} (h : t.length ≤ 40) : (madeR b d t).1.length ≤ 40 := by
  unfold madeR; split
  · simp
  · split
    · exact h
    · simp
theorem txt_len {x : Option (List UInt8)} (h : ∀ y, x = some y → y.length ≤ 40) : (txtO x).length ≤ 40 := by
  cases x with
  | none => simp [txtO]
  | some y => exact h y rfl
theorem makeM_len (ls : List (List Int)) (rs : List (List OpT)) (m : List ResT) (k : Nat) : (makeM ls rs m k).1.length ≤ 40 :=
  madeR_len (txt_len (fun _ h => runT_len (by simp) h))
theorem oneM_len {ls : List (List Int)} {bs : List Bool} {rs : List (List OpT)} {ts : List (List UInt8)} {m : List ResT} {k : Nat} (ht : ∀ x ∈ ts, x.length ≤ 40) : (oneM ls bs rs ts m k).1.length ≤ 40 := by
  unfold oneM; split
  · simp only
    rcases Nat.lt_or_ge k ts.length with h | h
    · rw [getD_at _ h]; exact ht _ (List.getElem_mem h)
    · rw [List.getD_eq_getElem?_getD, List.getElem?_eq_none h]; simp
  · exact makeM_len _ _ _ _
theorem src_len {ls : List (List Int)} {l : List Int} {bs : List Bool} {rs : List (List OpT)} {ts : List (List UInt8)} (h : srcA ls l bs rs ts = true) : ∀ x ∈ ts, x.length ≤ 40 := by
  intro x hx
  obtain ⟨k, hk, rfl⟩ := List.getElem_of_mem hx
  have := (src_parts h).2.2 k hk
  rw [srcP_at (by have := (src_parts h).2.1; omega) hk, Bool.and_eq_true, decide_eq_true_eq] at this
  exact this.1
theorem res_len {m : List ResT} (h : resA m = true) : Sml m := fun f hf => (resA_small h).2 f hf

/-- A walk along the order: those that are due are made. -/
def passM (one : List ResT → Nat → ResT) (due : List ResT → Nat → Bool) : List Int → List ResT × List Int → List ResT × List Int
  | [], s => s
  | k :: r, s => passM one due r (if due s.1 k.toNat then (s.1.set k.toNat (one s.1 k.toNat), s.2 ++ [k]) else s)
theorem pass_append (one : List ResT → Nat → ResT) (due : List ResT → Nat → Bool) (a b : List Int) (s : List ResT × List Int) : passM one due (a ++ b) s = passM one due b (passM one due a s) := by
  induction a generalizing s with
  | nil => rfl
  | cons k t ih => simp only [List.cons_append, passM]; exact ih _
theorem pass_next (one : List ResT → Nat → ResT) (due : List ResT → Nat → Bool) {l : List Int} {k : Nat} (hk : k < l.length) (s : List ResT × List Int) : passM one due (l.take (k + 1)) s =
    (if due (passM one due (l.take k) s).1 l[k].toNat then ((passM one due (l.take k) s).1.set l[k].toNat (one (passM one due (l.take k) s).1 l[k].toNat), (passM one due (l.take k) s).2 ++ [l[k]]) else passM one due (l.take k) s) := by
  rw [List.take_succ_eq_append_getElem hk, pass_append]; rfl
theorem pass_len (one : List ResT → Nat → ResT) (due : List ResT → Nat → Bool) (l : List Int) (s : List ResT × List Int) : (passM one due l s).1.length = s.1.length := by
  induction l generalizing s with
  | nil => rfl
  | cons k t ih =>
    simp only [passM]
    rw [ih]
    split
    · simp
    · rfl
theorem pass_sml (one : List ResT → Nat → ResT) (due : List ResT → Nat → Bool) (ho : ∀ m k, (one m k).1.length ≤ 40) (l : List Int) (s : List ResT × List Int) (h : Sml s.1) : Sml (passM one due l s).1 := by
  induction l generalizing s with
  | nil => exact h
  | cons k t ih =>
    simp only [passM]
    refine ih _ ?_
    split
    · exact h.set (ho _ _) _
    · exact h
theorem pass_made (one : List ResT → Nat → ResT) (due : List ResT → Nat → Bool) (l : List Int) (s : List ResT × List Int) : (passM one due l s).2.length ≤ s.2.length + l.length := by
  induction l generalizing s with
  | nil => simp [passM]
  | cons k t ih =>
    simp only [passM]
    refine Nat.le_trans (ih _) ?_
    split
    · simp only [List.length_append, List.length_cons, List.length_nil]; omega
    · simp only [List.length_cons]; omega
/-- How many of some are no sources. -/
def runsL (bs : List Bool) (d : List Int) : Nat := (d.filter (fun k => !bs.getD k.toNat false)).length
theorem runs_app (bs : List Bool) (d : List Int) (k : Int) : runsL bs (d ++ [k]) = runsL bs d + (if bs.getD k.toNat false then 0 else 1) := by
  unfold runsL
  rw [List.filter_append, List.length_append]
  rcases h : bs.getD k.toNat false with _ | _ <;> (rw [List.filter_cons, h]; simp)
theorem runs_le (bs : List Bool) (d : List Int) : runsL bs d ≤ d.length := List.length_filter_le _ _
/-- What a build makes. -/
def buildM (ls : List (List Int)) (l : List Int) (bs : List Bool) (rs : List (List OpT)) (ts : List (List UInt8)) : List ResT :=
  (passM (oneM ls bs rs ts) (fun _ _ => true) l (List.replicate bs.length noRes, [])).1
noncomputable def buildA (ls : List (List Int)) (l : List Int) (bs : List Bool) (rs : List (List OpT)) (ts : List (List UInt8)) : List ResT :=
  if srcA ls l bs rs ts then buildM ls l bs rs ts else []
theorem build_next {one : List ResT → Nat → ResT} {l : List Int} {k : Nat} (hk : k < l.length) (s : List ResT × List Int) : (passM one (fun _ _ => true) (l.take (k + 1)) s).1 = (passM one (fun _ _ => true) (l.take k) s).1.set l[k].toNat (one (passM one (fun _ _ => true) (l.take k) s).1 l[k].toNat) := by
  rw [pass_next _ _ hk]; rfl

/-- Those that are not what they would be. -/
def staleL (one : List ResT → Nat → ResT) (m : List ResT) : List Int := ((List.range m.length).filter (fun k => decide (one m k ≠ m.getD k noRes))).map (fun k : Nat => (k : Int))
def staleP (one : List ResT → Nat → ResT) (m : List ResT) (k : Nat) : Bool := decide (one m k ≠ m.getD k noRes)
theorem mem_stale {one : List ResT → Nat → ResT} {m : List ResT} {k : Nat} : (k : Int) ∈ staleL one m ↔ k < m.length ∧ staleP one m k = true := by
  unfold staleL staleP
  simp only [List.mem_map, List.mem_filter, List.mem_range]
  constructor
  · rintro ⟨j, h, e⟩
    obtain rfl : j = k := by omega
    exact h
  · intro h; exact ⟨k, h, rfl⟩
/-- What is made does not turn on what comes later. -/
structure Ahead (one : List ResT → Nat → ResT) (l : List Int) (n : Nat) : Prop where
  nodup : l.Nodup
  range : ∀ k ∈ l, 0 ≤ k ∧ k < (n : Int)
  all : ∀ k : Nat, k < n → (k : Int) ∈ l
  keeps : ∀ (m : List ResT) (i : Nat) (hi : i < l.length) (k : Int), k ∉ l.take i → m.length = n → ∀ r, one (m.set k.toNat r) l[i].toNat = one m l[i].toNat

theorem ahead_fresh {one : List ResT → Nat → ResT} {l : List Int} {n : Nat} (h : Ahead one l n) {m : List ResT} (hm : m.length = n) {i j : Nat} (hi : i < l.length) (hj : j < l.length) (hij : i ≤ j)
    (hf : i < j → staleP one m l[i].toNat = false) : staleP one (m.set l[j].toNat (one m l[j].toNat)) l[i].toNat = false := by
  have hnj : l[j] ∉ l.take i := by
    intro hc
    have e : l.take i = (l.take j).take i := by rw [List.take_take, Nat.min_eq_left hij]
    rw [e] at hc
    exact nodup_at h.nodup hj (List.mem_of_mem_take hc)
  have hk := h.keeps m i hi l[j] hnj hm (one m l[j].toNat)
  unfold staleP
  rw [hk]
  have hri := h.range _ (List.getElem_mem hi)
  have hrj := h.range _ (List.getElem_mem hj)
  by_cases e : i = j
  · subst e
    rw [List.getD_eq_getElem?_getD, List.getElem?_set_self (by omega)]
    simp
  · have hne : l[i] ≠ l[j] := by
      intro hc
      have hm : l[i] ∈ l.take j := by
        have hlt : i < (l.take j).length := by rw [List.length_take]; omega
        have := List.getElem_mem hlt
        rwa [List.getElem_take] at this
      exact nodup_at h.nodup hj (hc ▸ hm)
    rw [List.getD_eq_getElem?_getD, List.getElem?_set_ne (by omega), ← List.getD_eq_getElem?_getD]
    exact hf (by omega)
/-- Behind a walk up to there nothing ahead is stale. -/
theorem pass_fresh {one : List ResT → Nat → ResT} {l : List Int} {n : Nat} (h : Ahead one l n) {m : List ResT} (hm : m.length = n) {j : Nat} (hj : j ≤ l.length) :
    ∀ i (hi : i < j), staleP one (passM one (staleP one) (l.take j) (m, [])).1 (l[i]'(by omega)).toNat = false := by
  induction j with
  | zero => intro i hi; omega
  | succ j ih =>
    intro i hi
    have hlt : j < l.length := by omega
    have hl := pass_len one (staleP one) (l.take j) (m, [])
    rw [pass_next _ _ hlt]
    rcases hs : staleP one (passM one (staleP one) (l.take j) (m, [])).1 l[j].toNat with _ | _
    · rw [if_neg (by simp)]
      by_cases e : i = j
      · subst e; exact hs
      · exact ih (by omega) i (by omega)
    · rw [if_pos rfl]
      exact ahead_fresh h (by rw [hl]; exact hm) (by omega) hlt (by omega) (fun hh => ih (by omega) i hh)
theorem stale_none {one : List ResT → Nat → ResT} {m : List ResT} (h : ∀ k, k < m.length → staleP one m k = false) : staleL one m = [] := by
  unfold staleL
  rw [List.map_eq_nil_iff, List.filter_eq_nil_iff]
  intro k hk
  have := h k (List.mem_range.1 hk)
  unfold staleP at this
  rw [this]; simp
theorem pass_still {one : List ResT → Nat → ResT} (due : List ResT → Nat → Bool) (l : List Int) (s : List ResT × List Int) (h : ∀ k ∈ l, due s.1 k.toNat = false) : passM one due l s = s := by
  induction l with
  | nil => rfl
  | cons k t ih =>
    simp only [passM]
    rw [h k (by simp), if_neg (by simp)]
    exact ih (fun x hx => h x (by simp [hx]))
end Go.Proofs.YtngldlconipnnaaGreat

/- Traces as mathematics. -/
namespace Go.Proofs.YtngldlconipnnaaGreat
open Go.RowKit Pth

/-- A trace: its task, its inputs, what came out. -/
abbrev TrT := Int × List (List UInt8) × ResT
def noTr : TrT := (0, [], noRes)
/-- Whether these are inputs of a task that is no source. -/
def insOk (ls : List (List Int)) (bs : List Bool) (t : Int) (ins : List (List UInt8)) : Bool :=
  decide (0 ≤ t) && decide (t < (ls.length : Int)) && !bs.getD t.toNat false && decide (ins.length = (ls.getD t.toNat []).length) && textsL ins
/-- Whether it is a trace of the plan. -/
def traceA (ls : List (List Int)) (bs : List Bool) (t : TrT) : Bool := insOk ls bs t.1 t.2.1 && resOk t.2.2 && decide (t.2.2.2 ≠ 2)
/-- Where a trace of these lies. -/
def isT (t : Int) (ins : List (List UInt8)) (x : TrT) : Bool := decide (x.1 = t) && decide (x.2.1 = ins)
def findT (T : List TrT) (t : Int) (ins : List (List UInt8)) : Option Nat := T.findIdx? (isT t ins)
def findK (T : List TrT) (t : Int) (ins : List (List UInt8)) : Int := match findT T t ins with | some k => (k : Int) | none => -1
theorem findT_lt {T : List TrT} {t : Int} {ins : List (List UInt8)} {k : Nat} (h : findT T t ins = some k) : k < T.length := by
  obtain ⟨h1, _⟩ := List.findIdx?_eq_some_iff_getElem.1 h
  exact h1
theorem find_next {T : List TrT} {t : Int} {ins : List (List UInt8)} {k : Nat} (hk : k < T.length) (h : (T.take k).any (isT t ins) = false) (hn : isT t ins T[k] = false) : (T.take (k + 1)).any (isT t ins) = false := by
  rw [List.take_succ_eq_append_getElem hk, List.any_append, h]; simp [hn]
theorem find_here {T : List TrT} {t : Int} {ins : List (List UInt8)} {k : Nat} (hk : k < T.length) (h : (T.take k).any (isT t ins) = false) (hn : isT t ins T[k] = true) : findT T t ins = some k := by
  unfold findT
  rw [List.findIdx?_eq_some_iff_getElem]
  refine ⟨hk, hn, fun j hj => ?_⟩
  have := List.any_eq_false.1 h (T[j]'(by omega)) (by rw [List.mem_take_iff_getElem]; exact ⟨j, by omega, rfl⟩)
  simpa using this
theorem find_none {T : List TrT} {t : Int} {ins : List (List UInt8)} (h : T.any (isT t ins) = false) : findT T t ins = none := by
  unfold findT
  rw [List.findIdx?_eq_none_iff]
  intro x hx
  have := List.any_eq_false.1 h x hx
  simpa using this
/-- What holds of the trace at a place of a good list. -/
def trP (ls : List (List Int)) (bs : List Bool) (T : List TrT) (k : Nat) : Bool := traceA ls bs (T.getD k noTr) && (findT (T.take k) (T.getD k noTr).1 (T.getD k noTr).2.1).isNone
theorem trP_at {ls : List (List Int)} {bs : List Bool} {T : List TrT} {k : Nat} (hk : k < T.length) : trP ls bs T k = (traceA ls bs T[k] && (findT (T.take k) T[k].1 T[k].2.1).isNone) := by
  unfold trP; rw [getD_at _ hk]
/-- Whether they are good traces of the plan. -/
noncomputable def goodT (ls : List (List Int)) (l : List Int) (bs : List Bool) (rs : List (List OpT)) (T : List TrT) : Bool :=
  planA ls l bs rs && decide (T.length ≤ 40) && (List.range T.length).all (trP ls bs T)
theorem goodT_parts {ls : List (List Int)} {l : List Int} {bs : List Bool} {rs : List (List OpT)} {T : List TrT} (h : goodT ls l bs rs T = true) :
    planA ls l bs rs = true ∧ T.length ≤ 40 ∧ ∀ k, k < T.length → trP ls bs T k = true := by
  unfold goodT at h
  rw [Bool.and_eq_true, Bool.and_eq_true, decide_eq_true_eq, List.all_eq_true] at h
  exact ⟨h.1.1, h.1.2, fun k hk => h.2 k (List.mem_range.2 hk)⟩
theorem goodT_of {ls : List (List Int)} {l : List Int} {bs : List Bool} {rs : List (List OpT)} {T : List TrT} (h1 : planA ls l bs rs = true) (h2 : T.length ≤ 40) (h3 : ∀ k, k < T.length → trP ls bs T k = true) : goodT ls l bs rs T = true := by
  unfold goodT
  rw [Bool.and_eq_true, Bool.and_eq_true, decide_eq_true_eq, List.all_eq_true]
  exact ⟨⟨h1, h2⟩, fun k hk => h3 k (List.mem_range.1 hk)⟩
theorem goodT_not {ls : List (List Int)} {l : List Int} {bs : List Bool} {rs : List (List OpT)} {T : List TrT} {k : Nat} (hk : k < T.length) (h : trP ls bs T k = false) : goodT ls l bs rs T = false := by
  rw [Bool.eq_false_iff]; intro hc
  have := (goodT_parts hc).2.2 k hk
  rw [h] at this; cases this
theorem goodT_all {ls : List (List Int)} {l : List Int} {bs : List Bool} {rs : List (List OpT)} {T : List TrT} (h : goodT ls l bs rs T = true) : ∀ t ∈ T, traceA ls bs t = true := by
  intro t ht
  obtain ⟨k, hk, rfl⟩ := List.getElem_of_mem ht
  have := (goodT_parts h).2.2 k hk
  rw [trP_at hk, Bool.and_eq_true] at this
  exact this.1
/-- What is known of inputs. -/
theorem insOk_parts {ls : List (List Int)} {bs : List Bool} {t : Int} {ins : List (List UInt8)} (h : insOk ls bs t ins = true) :
    0 ≤ t ∧ t < (ls.length : Int) ∧ bs.getD t.toNat false = false ∧ ins.length = (ls.getD t.toNat []).length ∧ textsL ins = true := by
  unfold insOk at h
  simp only [Bool.and_eq_true, decide_eq_true_eq, Bool.not_eq_true'] at h
  exact ⟨h.1.1.1.1, h.1.1.1.2, h.1.1.2, h.1.2, h.2⟩
theorem texts_parts {l : List (List UInt8)} (h : textsL l = true) : (∀ x ∈ l, x.length ≤ 40) ∧ l.length ≤ 10 := by
  unfold textsL at h
  rw [Bool.and_eq_true, decide_eq_true_eq, List.all_eq_true] at h
  exact ⟨fun x hx => by have := h.1 x hx; rwa [decide_eq_true_eq] at this, h.2⟩
theorem traceA_parts {ls : List (List Int)} {bs : List Bool} {t : TrT} (h : traceA ls bs t = true) : insOk ls bs t.1 t.2.1 = true ∧ resOk t.2.2 = true ∧ t.2.2.2 ≠ 2 := by
  unfold traceA at h
  rw [Bool.and_eq_true, Bool.and_eq_true, decide_eq_true_eq] at h
  exact ⟨h.1.1, h.1.2, h.2⟩
theorem resOk_len {r : ResT} (h : resOk r = true) : r.1.length ≤ 40 := by
  unfold resOk at h
  simp only [Bool.and_eq_true, decide_eq_true_eq] at h
  exact h.1.2
/-- Traces whose texts are short. -/
def ShortT (T : List TrT) : Prop := ∀ t ∈ T, (∀ x ∈ t.2.1, x.length ≤ 40) ∧ t.2.1.length ≤ 10 ∧ t.2.2.1.length ≤ 40
theorem short_of {ls : List (List Int)} {bs : List Bool} {T : List TrT} (h : ∀ t ∈ T, traceA ls bs t = true) : ShortT T := fun t ht => by
  obtain ⟨h1, h2, _⟩ := traceA_parts (h t ht)
  obtain ⟨_, _, _, _, h3⟩ := insOk_parts h1
  exact ⟨(texts_parts h3).1, (texts_parts h3).2, resOk_len h2⟩
/-- All of one task have as many inputs as these. -/
def SameLen (T : List TrT) (t : Int) (n : Nat) : Prop := ∀ x ∈ T, x.2.1.length ≤ 10 ∧ (x.1 = t → x.2.1.length = n)
theorem same_of {ls : List (List Int)} {bs : List Bool} {T : List TrT} (h : ∀ t ∈ T, traceA ls bs t = true) {t : Int} {ins : List (List UInt8)} (hi : insOk ls bs t ins = true) : SameLen T t ins.length := fun x hx => by
  obtain ⟨h1, _⟩ := traceA_parts (h x hx)
  obtain ⟨_, _, _, h4, h3⟩ := insOk_parts h1
  refine ⟨(texts_parts h3).2, fun e => ?_⟩
  rw [h4, e, (insOk_parts hi).2.2.2.1]
/-- What is found. -/
def foundT (T : List TrT) (t : Int) (ins : List (List UInt8)) : Option ResT := (findT T t ins).map (fun k => (T.getD k noTr).2.2)
noncomputable def foundA (ls : List (List Int)) (l : List Int) (bs : List Bool) (rs : List (List OpT)) (T : List TrT) (t : Int) (ins : List (List UInt8)) : Option ResT :=
  if goodT ls l bs rs T && insOk ls bs t ins then foundT T t ins else none
def resO (x : Option ResT) : ResT := match x with | some r => r | none => noRes
/-- One more that is noted. -/
def noteL (T : List TrT) (t : TrT) : List TrT := match findT T t.1 t.2.1 with | some k => T.set k t | none => (T ++ [t]).drop (T.length + 1 - 40)
theorem note_put {T : List TrT} {t : TrT} {k : Nat} (h : findT T t.1 t.2.1 = some k) : noteL T t = T.set k t := by unfold noteL; rw [h]
theorem note_new {T : List TrT} {t : TrT} (h : findT T t.1 t.2.1 = none) : noteL T t = (T ++ [t]).drop (T.length + 1 - 40) := by unfold noteL; rw [h]
theorem note_mem {T : List TrT} {t x : TrT} (h : x ∈ noteL T t) : x ∈ T ∨ x = t := by
  unfold noteL at h
  split at h
  · exact List.mem_or_eq_of_mem_set h
  · have := List.mem_of_mem_drop h
    simpa using this
theorem note_len {T : List TrT} {t : TrT} (h : T.length ≤ 40) : (noteL T t).length ≤ 40 := by
  unfold noteL
  split
  · simpa using h
  · simp; omega
noncomputable def noteA (ls : List (List Int)) (l : List Int) (bs : List Bool) (rs : List (List OpT)) (T : List TrT) (t : TrT) : List TrT := if goodT ls l bs rs T && traceA ls bs t then noteL T t else []
/-- How many are of a task. -/
def forL (T : List TrT) (t : Int) : Nat := (T.filter (fun x => decide (x.1 = t))).length
theorem forL_le (T : List TrT) (t : Int) : forL T t ≤ T.length := List.length_filter_le _ _
theorem for_next {T : List TrT} {t : Int} {k : Nat} (hk : k < T.length) : forL (T.take (k + 1)) t = forL (T.take k) t + (if T[k].1 = t then 1 else 0) := by
  unfold forL
  rw [List.take_succ_eq_append_getElem hk, List.filter_append, List.length_append, List.filter_cons]
  by_cases h : T[k].1 = t <;> simp [h]
noncomputable def forA (ls : List (List Int)) (l : List Int) (bs : List Bool) (rs : List (List OpT)) (T : List TrT) (t : Int) : Bool := goodT ls l bs rs T && decide (0 ≤ t) && decide (t < (ls.length : Int))
/-- What a recipe makes of inputs. -/
def outM (rs : List (List OpT)) (t : Nat) (ins : List (List UInt8)) : ResT := madeR false (Pth.runT ins (rs.getD t []) []).isSome (txtO (Pth.runT ins (rs.getD t []) []))
def trueP (rs : List (List OpT)) (t : TrT) : Bool := decide (outM rs t.1.toNat t.2.1 = t.2.2)
/-- A build with traces, a task further. -/
def tracedS (ls : List (List Int)) (bs : List Bool) (rs : List (List OpT)) (ts : List (List UInt8)) (s : List ResT × List TrT × Nat) (k : Nat) : List ResT × List TrT × Nat :=
  if bs.getD k false then (s.1.set k (ts.getD k [], 0), s.2.1, s.2.2)
  else if (firstL s.1 (ls.getD k [])).2 then (s.1.set k ([], 2), s.2.1, s.2.2)
  else match foundT s.2.1 (k : Int) (bodiesL s.1 (ls.getD k [])) with
    | some r => (s.1.set k r, s.2.1, s.2.2)
    | none => (s.1.set k (makeM ls rs s.1 k), noteL s.2.1 ((k : Int), bodiesL s.1 (ls.getD k []), makeM ls rs s.1 k), s.2.2 + 1)
def tracedL (ls : List (List Int)) (bs : List Bool) (rs : List (List OpT)) (ts : List (List UInt8)) : List Int → List ResT × List TrT × Nat → List ResT × List TrT × Nat
  | [], s => s
  | k :: r, s => tracedL ls bs rs ts r (tracedS ls bs rs ts s k.toNat)
theorem traced_append (ls : List (List Int)) (bs : List Bool) (rs : List (List OpT)) (ts : List (List UInt8)) (a b : List Int) (s : List ResT × List TrT × Nat) : tracedL ls bs rs ts (a ++ b) s = tracedL ls bs rs ts b (tracedL ls bs rs ts a s) := by
  induction a generalizing s with
  | nil => rfl
  | cons k t ih => simp only [List.cons_append, tracedL]; exact ih _
theorem traced_next (ls : List (List Int)) (bs : List Bool) (rs : List (List OpT)) (ts : List (List UInt8)) {l : List Int} {k : Nat} (hk : k < l.length) (s : List ResT × List TrT × Nat) :
    tracedL ls bs rs ts (l.take (k + 1)) s = tracedS ls bs rs ts (tracedL ls bs rs ts (l.take k) s) l[k].toNat := by
  rw [List.take_succ_eq_append_getElem hk, traced_append]; rfl
/-- What holds on the way. -/
structure OnWay (ls : List (List Int)) (bs : List Bool) (s : List ResT × List TrT × Nat) : Prop where
  len : s.1.length = bs.length
  sml : Sml s.1
  all : ∀ t ∈ s.2.1, traceA ls bs t = true
  few : s.2.1.length ≤ 40
theorem makeM_ok (ls : List (List Int)) (rs : List (List OpT)) (m : List ResT) (k : Nat) (hb : (firstL m (ls.getD k [])).2 = false) : resOk (makeM ls rs m k) = true ∧ (makeM ls rs m k).2 ≠ 2 := by
  have hlen := makeM_len ls rs m k
  unfold makeM madeR at hlen ⊢
  rw [hb] at hlen ⊢
  simp only [Bool.false_eq_true, if_false] at hlen ⊢
  split
  · rename_i h; rw [if_pos h] at hlen; unfold resOk; simp at hlen ⊢; exact hlen
  · unfold resOk; simp
theorem foundT_ok {ls : List (List Int)} {bs : List Bool} {T : List TrT} (h : ∀ t ∈ T, traceA ls bs t = true) {t : Int} {ins : List (List UInt8)} {r : ResT} (hf : foundT T t ins = some r) : r.1.length ≤ 40 := by
  unfold foundT at hf
  rw [Option.map_eq_some_iff] at hf
  obtain ⟨k, h1, rfl⟩ := hf
  have hk := findT_lt h1
  rw [getD_at _ hk]
  exact resOk_len (traceA_parts (h _ (List.getElem_mem hk))).2.1
theorem bodies_texts {m : List ResT} (h : Sml m) {ns : List Int} (hn : ns.length ≤ 10) : textsL (bodiesL m ns) = true := by
  unfold textsL
  rw [Bool.and_eq_true, decide_eq_true_eq, bodies_len]
  refine ⟨List.all_eq_true.2 fun x hx => ?_, hn⟩
  rw [decide_eq_true_eq]
  obtain ⟨k, _, rfl⟩ := List.mem_map.1 hx
  unfold resAt
  rcases Nat.lt_or_ge k.toNat m.length with h1 | h1
  · rw [getD_at _ h1]; exact h _ (List.getElem_mem h1)
  · rw [List.getD_eq_getElem?_getD, List.getElem?_eq_none h1]; simp [noRes]
theorem new_trace {ls : List (List Int)} {l : List Int} {bs : List Bool} {rs : List (List OpT)} (hp : planA ls l bs rs = true) {m : List ResT} (hm : Sml m) {k : Nat} (hk : k < ls.length) (hs : bs.getD k false = false) (hb : (firstL m (ls.getD k [])).2 = false) :
    traceA ls bs ((k : Int), bodiesL m (ls.getD k []), makeM ls rs m k) = true := by
  obtain ⟨h1, h2⟩ := makeM_ok ls rs m k hb
  have h10 := (plan_task hp hk).1
  have ht : textsL (bodiesL m (ls.getD k [])) = true := by rw [getD_at _ hk]; exact bodies_texts hm (by omega)
  unfold traceA insOk
  simp only [Bool.and_eq_true, decide_eq_true_eq, Bool.not_eq_true', Int.toNat_natCast]
  exact ⟨⟨⟨⟨⟨⟨by omega, by omega⟩, hs⟩, by simp [bodiesL]⟩, ht⟩, h1⟩, h2⟩
theorem traced_on {ls : List (List Int)} {l : List Int} {bs : List Bool} {rs : List (List OpT)} {ts : List (List UInt8)} (hp : planA ls l bs rs = true) (ht : ∀ x ∈ ts, x.length ≤ 40) {s : List ResT × List TrT × Nat} (h : OnWay ls bs s) {k : Nat} (hk : k < ls.length) :
    OnWay ls bs (tracedS ls bs rs ts s k) := by
  obtain ⟨h1, h2, h3, h4⟩ := h
  unfold tracedS
  split
  · refine ⟨by simpa using h1, h2.set ?_ _, h3, h4⟩
    simp only
    rcases Nat.lt_or_ge k ts.length with h | h
    · rw [getD_at _ h]; exact ht _ (List.getElem_mem h)
    · rw [List.getD_eq_getElem?_getD, List.getElem?_eq_none h]; simp
  · rename_i hs
    split
    · exact ⟨by simpa using h1, h2.set (by simp) _, h3, h4⟩
    · rename_i hb
      split
      · rename_i r hf
        exact ⟨by simpa using h1, h2.set (foundT_ok h3 hf) _, h3, h4⟩
      · refine ⟨by simpa using h1, h2.set (makeM_len _ _ _ _) _, fun t hm => ?_, note_len h4⟩
        rcases note_mem hm with h | h
        · exact h3 t h
        · rw [h]; exact new_trace hp h2 hk (by simpa using hs) (by simpa using hb)
theorem traced_way {ls : List (List Int)} {l : List Int} {bs : List Bool} {rs : List (List OpT)} {ts : List (List UInt8)} (hp : planA ls l bs rs = true) (ht : ∀ x ∈ ts, x.length ≤ 40) (o : List Int) (ho : ∀ k ∈ o, k.toNat < ls.length) {s : List ResT × List TrT × Nat} (h : OnWay ls bs s) : OnWay ls bs (tracedL ls bs rs ts o s) := by
  induction o generalizing s with
  | nil => exact h
  | cons k t ih => exact ih (fun j hj => ho j (List.mem_cons_of_mem _ hj)) (traced_on hp ht h (ho k (List.mem_cons_self ..)))
theorem traced_runs {ls : List (List Int)} {bs : List Bool} {rs : List (List OpT)} {ts : List (List UInt8)} (o : List Int) (s : List ResT × List TrT × Nat) : (tracedL ls bs rs ts o s).2.2 ≤ s.2.2 + o.length := by
  induction o generalizing s with
  | nil => exact Nat.le_refl _
  | cons k t ih =>
    refine Nat.le_trans (ih _) ?_
    have : (tracedS ls bs rs ts s k.toNat).2.2 ≤ s.2.2 + 1 := by
      unfold tracedS
      split
      · simp
      · split
        · simp
        · split <;> simp
    simp only [List.length_cons]; omega
/-- What a build with traces comes to. -/
def tracedM (ls : List (List Int)) (l : List Int) (bs : List Bool) (rs : List (List OpT)) (T : List TrT) (ts : List (List UInt8)) : List ResT × List TrT × Nat := tracedL ls bs rs ts l (List.replicate bs.length noRes, T, 0)
noncomputable def tracedA (ls : List (List Int)) (l : List Int) (bs : List Bool) (rs : List (List OpT)) (T : List TrT) (ts : List (List UInt8)) : List ResT × List TrT × Nat :=
  if goodT ls l bs rs T && srcA ls l bs rs ts then tracedM ls l bs rs T ts else ([], [], 0)
theorem onWay_start {ls : List (List Int)} {l : List Int} {bs : List Bool} {rs : List (List OpT)} {T : List TrT} (h : goodT ls l bs rs T = true) : OnWay ls bs (List.replicate bs.length noRes, T, 0) :=
  ⟨by simp, sml_none _, goodT_all h, (goodT_parts h).2.1⟩
end Go.Proofs.YtngldlconipnnaaGreat

/- Walks: the laws' marks in ops. -/
namespace Go.Proofs.YtngldlconipnnaaGreat
open Go.RowKit Pth

/-- The ops that are marks, from k on. -/
def marksO (k : Nat) (n : Nat) : List OpT := (List.range n).map (fun (i : Nat) => (((k + i * 3 : Nat) : Int), ((k + i * 3 + 1 : Nat) : Int), markT (k + i * 3 + 2)))
theorem marksO_len (k n : Nat) : (marksO k n).length = n := by simp [marksO]
theorem marksO_snoc (k n : Nat) : marksO k (n + 1) = marksO k n ++ [(((k + n * 3 : Nat) : Int), ((k + n * 3 + 1 : Nat) : Int), markT (k + n * 3 + 2))] := by simp [marksO, List.range_succ]
theorem set_kindO (a : List OpT) (k : Nat) (ha : a.length = k) (x p q : Int) (t : List UInt8) (rest : List OpT) :
    (OC a ++ OC ((p, q, t) :: rest)).set (k * 3) (.int .i64 x) = OC a ++ OC ((x, q, t) :: rest) := by
  have hl : (OC a).length = k * 3 := by rw [OC_len, ha]
  rw [List.set_append_right _ _ (by omega), hl, Nat.sub_self]
  rfl
theorem set_numO (a : List OpT) (k : Nat) (ha : a.length = k) (x p q : Int) (t : List UInt8) (rest : List OpT) :
    (OC a ++ OC ((p, q, t) :: rest)).set (k * 3 + 1) (.int .i64 x) = OC a ++ OC ((p, x, t) :: rest) := by
  have hl : (OC a).length = k * 3 := by rw [OC_len, ha]
  rw [List.set_append_right _ _ (by omega), hl, show k * 3 + 1 - k * 3 = 1 by omega]
  rfl
theorem set_textO (a : List OpT) (k : Nat) (ha : a.length = k) (p q : Int) (x t : List UInt8) (rest : List OpT) :
    (OC a ++ OC ((p, q, t) :: rest)).set (k * 3 + 2) (.string ⟨x.toArray⟩) = OC (a ++ [(p, q, x)]) ++ OC rest := by
  have hl : (OC a).length = k * 3 := by rw [OC_len, ha]
  rw [List.set_append_right _ _ (by omega), hl, show k * 3 + 2 - k * 3 = 2 by omega, OC_append]
  simp [OC, opC]
theorem mark_l (j : Nat) (i : Int) (h : (j : Int) = i) (hk1 : j ≤ 8000000) (h1 : 1 ≤ j) (w : World) : Calls Tryz.prog 47 #[.int .i64 i] w fun e w' => e = .returned (.string ⟨(markT j).toArray⟩) ∧ Below w.heap.size w w' := by
  subst h
  exact markText_any j w hk1 h1

/-- The ops hold the marks, and nothing but their own block has turned. -/
def MarkedO (v : Value) (k : Nat) (n : Nat) (w : World) (e : Ending) (w' : World) : Prop :=
  e = .returned (.int .i64 ((k : Int) + (n : Int) * 3)) ∧ w.grownBy w' v.ownBlock

set_option maxRecDepth 20000 in
set_option maxHeartbeats 1000000 in
theorem markOpS_any (l : List OpT) (k : Nat) (B : Nat) (v : Value) (w : World) (hown : w.ownsRow B 110 3 v l.length (OC l)) (hl : l.length ≤ 1100000) (hk : k ≤ 4000000) (hk1 : 1 ≤ k) :
    Calls Tryz.prog 70 #[v, .int .i64 (k : Int)] w (MarkedO v k l.length w) := by
  have HW := Lib.hid hown
  obtain ⟨a, cap, rfl⟩ := own_sliceG hown
  clear hown
  go_enter Tryz.func70, Tryz.ntmps70
  go_wp2_with fail
  go_loopw [1, 5] (fun q i wr => ∃ j : Nat, j ≤ l.length ∧ q = .int .i64 ((k : Int) + (j : Int) * 3) ∧ i = .int .i64 j ∧ wr.ownsRow B 110 3 (.slice a l.length cap) l.length (OC (marksO k j) ++ OC (l.drop j)) ∧ w.grownBy wr (Value.slice a l.length cap).ownBlock) (fun _ i _ => l.length - (intOf i).toNat)
  case atStart => exact ⟨0, Nat.zero_le _, by simp, rfl, HW.out, grown_refl _ _⟩
  case round =>
    clear HW
    obtain ⟨j, hj, rfl, rfl, hown, hg⟩ := hrel
    by_cases hlt : j < l.length
    · obtain ⟨g, c2, hv⟩ : ∃ g c2, (Value.slice a l.length cap) = .slice (some ⟨g, 0, none⟩) l.length c2 := by
        rcases hown.2 with ⟨_, h0⟩ | ⟨g, c2, cur, hv, _⟩
        · omega
        · exact ⟨g, c2, hv⟩
      injection hv with hv1 hv2 hv3
      subst hv1
      have hc4 : l.length ≤ cap := by
        rcases hown.2 with ⟨_, h0⟩ | ⟨g, c2, cur, hv, _, _, h5, _⟩
        · omega
        · injection hv with _ _ hv3; omega
      have HC := Lib.hid (fun W => mark_l (k + j * 3 + 2) ((k : Int) + (j : Int) * 3 + 1 + 1) (by omega) (by omega) (by omega) W)
      rw [List.drop_eq_getElem_cons hlt, show l[j] = (l[j].1, l[j].2.1, l[j].2.2) from rfl] at hown
      have HE := Lib.hid (marksO_snoc k j)
      rw [show (((k + j * 3 : Nat) : Int)) = (k : Int) + (j : Int) * 3 by omega, show (((k + j * 3 + 1 : Nat) : Int)) = (k : Int) + (j : Int) * 3 + 1 by omega] at HE
      have ha := marksO_len k j
      have HG := Lib.hid hg
      have hfz := hown.frozenAt (j * 3)
      have hcz : wr.cell? ⟨g, j * 3, none⟩ = some (.int .i64 l[j].1) := by rw [hown.cellAt (j * 3) (by omega), (get_three (marksO k j) j ha _ _).1]
      have hst := hown.stored (j * 3) (.int .i64 ((k : Int) + (j : Int) * 3))
      rw [set_kindO (marksO k j) j ha] at hst
      have hfz1 := hst.1.frozenAt (j * 3 + 1)
      have hcz1 : (wr.setCell ⟨g, j * 3, none⟩ (.int .i64 ((k : Int) + (j : Int) * 3))).cell? ⟨g, j * 3 + 1, none⟩ = some (.int .i64 l[j].2.1) := by rw [hst.1.cellAt (j * 3 + 1) (by omega), (get_three (marksO k j) j ha _ _).2.1]
      have hst1 := hst.1.stored (j * 3 + 1) (.int .i64 ((k : Int) + (j : Int) * 3 + 1))
      rw [set_numO (marksO k j) j ha] at hst1
      have HN := Lib.hid hst1.1
      have HG1 := Lib.hid (grown_trans (grown_trans HG.out hst.2) hst1.2)
      clear hown hg hv2 hv3 hst hst1 HG
      generalize l[j].1 = p at hcz
      generalize l[j].2.1 = q at hcz1
      generalize l[j].2.2 = t at HN
      generalize markT (k + j * 3 + 2) = x at HC HE
      go_wp2_with fail
      generalize (wr.setCell ⟨g, j * 3, none⟩ (.int .i64 ((k : Int) + (j : Int) * 3))).setCell ⟨g, j * 3 + 1, none⟩ (.int .i64 ((k : Int) + (j : Int) * 3 + 1)) = w2 at HN HG1
      refine (HC.out _).mono ?_
      rintro e w3 ⟨rfl, hb3⟩
      have HN3 := Lib.hid (own_belowG HN.out hb3)
      have hfz2 := HN3.out.frozenAt (j * 3 + 2)
      have hcz2 : w3.cell? ⟨g, j * 3 + 2, none⟩ = some (.string ⟨t.toArray⟩) := by rw [HN3.out.cellAt (j * 3 + 2) (by omega), (get_three (marksO k j) j ha _ _).2.2]
      have hst := HN3.out.stored (j * 3 + 2) (.string ⟨x.toArray⟩)
      rw [set_textO (marksO k j) j ha, ← HE.out] at hst
      have HN4 := Lib.hid hst.1
      have HG4 := Lib.hid (grown_trans (grown_trans HG1.out (below_grown hb3)) hst.2)
      clear hst hb3 HN HN3 HG1 hcz hfz hcz1 hfz1 ha
      go_wp2_with fail
      go_roundw
      case rel => exact ⟨j + 1, by omega, by go_num, by go_num, HN4.out, HG4.out⟩
      case measure => simp [intOf]; omega
    · obtain rfl : j = l.length := by omega
      have HG := Lib.hid hg
      clear hown hg
      go_wp2_with fail
      go_ret
      exact ⟨rfl, HG.out⟩

end Go.Proofs.YtngldlconipnnaaGreat

/- Walks: the laws' marks in graphs, and whether they are held. -/
namespace Go.Proofs.YtngldlconipnnaaGreat
open Go.RowKit Pth

/-- The marks from k on, in lists. -/
def marksL : Nat → List (List Int) → List (List Int)
  | _, [] => []
  | k, l :: t => marks k l.length :: marksL (k + l.length) t
theorem marksL_len (k : Nat) (ls : List (List Int)) : (marksL k ls).length = ls.length := by
  induction ls generalizing k with
  | nil => rfl
  | cons l t ih => rw [marksL, List.length_cons, List.length_cons, ih]
theorem marksL_snoc (k : Nat) (ls : List (List Int)) (l : List Int) : marksL k (ls ++ [l]) = marksL k ls ++ [marks ((k + total ls : Nat) : Int) l.length] := by
  induction ls generalizing k with
  | nil => simp [marksL, total]
  | cons x t ih =>
    rw [List.cons_append, marksL, marksL, ih, List.cons_append]
    have : k + x.length + total t = k + total (x :: t) := by simp [total]; omega
    rw [this]
theorem marksL_next {k : Nat} {ls : List (List Int)} {j : Nat} (hj : j < ls.length) : marksL k (ls.take (j + 1)) = marksL k (ls.take j) ++ [marks ((k + total (ls.take j) : Nat) : Int) ls[j].length] := by
  rw [List.take_succ_eq_append_getElem hj, marksL_snoc]
theorem marksL_total (k : Nat) (ls : List (List Int)) : total (marksL k ls) = total ls := by
  induction ls generalizing k with
  | nil => rfl
  | cons x t ih => have := ih (k + x.length); simp only [total, marksL, List.map_cons, List.sum_cons, marks_len] at this ⊢; omega
theorem marksL_at {k : Nat} {ls : List (List Int)} {j : Nat} (hj : j < ls.length) : (marksL k ls)[j]'(by rw [marksL_len]; exact hj) = marks ((k + total (ls.take j) : Nat) : Int) ls[j].length := by
  induction ls generalizing k j with
  | nil => simp at hj
  | cons x t ih =>
    cases j with
    | zero => simp [marksL, total]
    | succ j =>
      simp only [marksL, List.getElem_cons_succ]
      rw [ih (by simpa using hj)]
      have : k + x.length + total (t.take j) = k + total ((x :: t).take (j + 1)) := by simp [total]; omega
      rw [this]

theorem zip_split {sl : List Value} {M ls : List (List Int)} {j : Nat} (hs : sl.length = ls.length) (hM : M.length = j) (hj : j < ls.length) :
    sl.zip (M ++ ls.drop j) = (sl.take j).zip M ++ (sl[j]'(by omega), ls[j]) :: (sl.drop (j + 1)).zip (ls.drop (j + 1)) := by
  have e : sl = sl.take j ++ sl[j]'(by omega) :: sl.drop (j + 1) := by rw [← List.drop_eq_getElem_cons (by omega), List.take_append_drop]
  conv => lhs; rw [e, List.drop_eq_getElem_cons hj]
  rw [List.zip_append (by rw [List.length_take]; omega), List.zip_cons_cons]
theorem zip_join {sl : List Value} {M ls : List (List Int)} {j : Nat} {x : List Int} (hs : sl.length = ls.length) (hM : M.length = j) (hj : j < ls.length) :
    (sl.take j).zip M ++ (sl[j]'(by omega), x) :: (sl.drop (j + 1)).zip (ls.drop (j + 1)) = sl.zip ((M ++ [x]) ++ ls.drop (j + 1)) := by
  have e : sl = sl.take j ++ sl[j]'(by omega) :: sl.drop (j + 1) := by rw [← List.drop_eq_getElem_cons (by omega), List.take_append_drop]
  conv => rhs; rw [e]
  rw [List.append_assoc, List.zip_append (by rw [List.length_take]; omega), List.singleton_append, List.zip_cons_cons]
/-- A list of another type stays. -/
theorem own_grownL {w w' : World} {B B' e n : Nat} {v : Value} {xs : List Value} {L : List (Value × List Int)} (h : w.ownsRow B e 1 v n xs) (he : e ≠ 3) (hl : Lists B' w L) (hg : GrownL w w' L) : w'.ownsRow B e 1 v n xs := by
  refine ⟨h.1, ?_⟩
  rcases h.2 with h0 | ⟨g, cap, cur, hv, hB, hh, r⟩
  · exact .inl h0
  · refine .inr ⟨g, cap, cur, hv, hB, (hg.block g (lt_of_block hh) (fun p hp hi => own_typesI h (hl.1 p hp) he g (by rw [hv]; rfl) hi)).trans hh, r⟩

theorem markIntS_l {l : List Int} {k B : Nat} {i r : Int} {v : Value} {w : World} (hi : (k : Int) = i) (hr : r = (k : Int) + (l.length : Int)) (hown : w.ownsRow B 3 1 v l.length (I l)) (hl : l.length ≤ 2000000) (hk : k ≤ 2000000) :
    Calls Tryz.prog 69 #[v, .int .i64 i] w fun e w' => e = .returned (.int .i64 r) ∧ w'.ownsRow B 3 1 v l.length (I (marks (k : Int) l.length)) ∧ w.grownBy w' v.ownBlock := by
  subst hi hr
  exact markIntS_any l k B v w hown hl hk
/-- The lists hold the marks, and nothing but their blocks has turned. -/
def MarkedN (B : Nat) (sl : List Value) (ls : List (List Int)) (R : List (Value × List Int)) (k : Nat) (w : World) (e : Ending) (w' : World) : Prop :=
  e = .returned (.int .i64 ((k + total ls : Nat) : Int)) ∧ Lists B w' (sl.zip (marksL k ls) ++ R) ∧ GrownL w w' (sl.zip ls)

set_option maxHeartbeats 2000000 in
theorem markIntSS_any (ls : List (List Int)) (R : List (Value × List Int)) (k B B' : Nat) (v : Value) (sl : List Value) (w : World) (hs : sl.length = ls.length) (hout : w.ownsRow B' 23 1 v ls.length sl) (hL : Lists B w (sl.zip ls ++ R)) (hl : ls.length + total ls ≤ 1500000) (hk : k ≤ 100000) :
    Calls Tryz.prog 68 #[v, .int .i64 (k : Int)] w (MarkedN B sl ls R k w) := by
  have HW := Lib.hid hL
  have HU := Lib.hid hout
  obtain ⟨a, cap, rfl⟩ := own_slice hout
  have hcap : ls.length ≤ cap ∧ cap ≤ maxLen := by obtain ⟨a', c', he, h1, h2, _⟩ := RowV.of_own hout; injection he with _ _ he; omega
  obtain ⟨hc1, hc2⟩ := hcap
  unfold maxLen at hc2
  clear hL hout
  go_enter Tryz.func68, Tryz.ntmps68
  go_wp2_with fail
  go_loopw [1, 5] (fun q i wr => ∃ j : Nat, j ≤ ls.length ∧ q = .int .i64 ((k + total (ls.take j) : Nat) : Int) ∧ i = .int .i64 j ∧ Lists B wr (sl.zip (marksL k (ls.take j) ++ ls.drop j) ++ R) ∧ GrownL w wr (sl.zip ls)) (fun _ i _ => ls.length - (intOf i).toNat)
  case atStart => exact ⟨0, Nat.zero_le _, by simp [total], rfl, by simpa [marksL] using HW.out, GrownL.refl _ _⟩
  case round =>
    obtain ⟨j, hj, rfl, rfl, hL, hg⟩ := hrel
    by_cases hlt : j < ls.length
    · have hout := own_grownL HU.out (by decide) HW.out.left hg
      have hsj : j < sl.length := by omega
      obtain ⟨a', c', he', _, _, hat⟩ := RowV.of_own hout
      injection he' with he1 he2 he3
      subst he1 he3
      obtain ⟨g, o, rfl, hgz, hcell⟩ := hat j hsj
      have hM : (marksL k (ls.take j)).length = j := by rw [marksL_len, List.length_take]; omega
      rw [zip_split hs hM hlt, List.append_assoc, List.cons_append] at hL
      have hone := hL.1 (sl[j], ls[j]) (by simp)
      have htl := total_at hlt
      have htk := total_le (ls := ls) (k := j)
      have HC := Lib.hid (markIntS_l (l := ls[j]) (k := k + total (ls.take j)) (i := ((k + total (ls.take j) : Nat) : Int)) (r := ((k + total (ls.take (j + 1)) : Nat) : Int)) rfl (by have := total_next hlt; omega) hone (by omega) (by omega))
      have HT : Hid (∀ w1, w1.ownsRow B 3 1 sl[j] ls[j].length (I (marks ((k + total (ls.take j) : Nat) : Int) ls[j].length)) → wr.grownBy w1 (sl[j]).ownBlock → Lists B w1 (sl.zip (marksL k (ls.take (j + 1)) ++ ls.drop (j + 1)) ++ R) ∧ GrownL w w1 (sl.zip ls)) := by
        intro w1 h1 h2
        refine ⟨?_, hg.one h2 (zip_get hsj hlt)⟩
        have := hL.turn (v' := sl[j]) (l' := marks ((k + total (ls.take j) : Nat) : Int) ls[j].length) h2 (by rw [marks_len]; exact h1) (fun b hb => .inl hb)
        rw [← List.cons_append, ← List.append_assoc, zip_join hs hM hlt, ← marksL_next hlt] at this
        exact this
      obtain ⟨a2, c2, hv2⟩ := own_slice hone
      have h63 : (k + total (ls.take (j + 1)) : Nat) ≤ 3000000 := by have := total_le (ls := ls) (k := j + 1); omega
      clear hL hone hat hg hout he2
      simp only at hv2
      generalize hsl : sl[j] = u at hcell HC HT hv2
      subst hv2
      generalize ls[j].length = n1 at *
      generalize k + total (ls.take j) = q0 at *
      generalize hq1 : k + total (ls.take (j + 1)) = q1 at *
      have HQ := Lib.hid hq1
      clear hsl hq1
      go_wp2_with fail
      refine HC.out.mono ?_
      rintro e w1 ⟨rfl, h1, h2⟩
      obtain ⟨h3, h4⟩ := HT.out w1 h1 h2
      have H3 := Lib.hid h3
      have H4 := Lib.hid h4
      clear h1 h2 h3 h4 HT HC
      go_wp2_with fail
      go_roundw
      case rel => exact ⟨j + 1, by omega, by rw [HQ.out], by go_num, H3.out, H4.out⟩
      case measure => simp [intOf]; omega
    · obtain rfl : j = ls.length := by omega
      rw [List.take_length, List.drop_length, List.append_nil] at hL
      rw [List.take_length]
      have HL := Lib.hid hL
      have HG := Lib.hid hg
      clear hL hg
      go_wp2_with fail
      go_ret
      exact ⟨rfl, HL.out, HG.out⟩

/-- Only blocks between two have turned. -/
structure OnlyIn (B C : Nat) (w w' : World) : Prop where
  below : Below B w w'
  above : ∀ i, C ≤ i → i < w.heap.size → w'.heap[i]? = w.heap[i]?
  kept : ∀ (i : Nat) (cs : Array Value) (e : Nat), e ≠ 3 → w.heap[i]? = some (Obj.cells cs e (0, 0)) → w'.heap[i]? = w.heap[i]?
theorem GraphO.only {B C D : Nat} {w w' : World} {v : Value} {ls : List (List Int)} {l : List Int} (h : GraphO D w v ls l) (hg : OnlyIn B C w w') (hD : C ≤ D) : GraphO D w' v ls l := by
  obtain ⟨nv, ov, sl, hv, h1, h2, h3⟩ := h
  have one : ∀ {e n : Nat} {x : Value} {xs : List Value}, w.ownsRow D e 1 x n xs → w'.ownsRow D e 1 x n xs := by
    intro e n x xs h
    refine ⟨h.1, ?_⟩
    rcases h.2 with h0 | ⟨g, cap, cur, hv, hB, hh, r⟩
    · exact .inl h0
    · exact .inr ⟨g, cap, cur, hv, hB, (hg.above g (by omega) (lt_of_block hh)).trans hh, r⟩
  exact ⟨nv, ov, sl, hv, h1, one h2, fun p hp => one (h3.1 p hp), h3.2⟩
theorem own_only {B C D e n : Nat} {w w' : World} {v : Value} {xs : List Value} (h : w.ownsRow D e 1 v n xs) (hg : OnlyIn B C w w') (hD : C ≤ D) : w'.ownsRow D e 1 v n xs := by
  refine ⟨h.1, ?_⟩
  rcases h.2 with h0 | ⟨g, cap, cur, hv, hB, hh, r⟩
  · exact .inl h0
  · exact .inr ⟨g, cap, cur, hv, hB, (hg.above g (by omega) (lt_of_block hh)).trans hh, r⟩
theorem Blk2.only {B C b t : Nat} {w w' : World} {x y : Value} (h : Blk2 w b t x y) (hg : OnlyIn B C w w') (hb : b < B ∨ C ≤ b) : Blk2 w' b t x y := by
  rcases hb with hb | hb
  · exact h.below hg.below hb
  · exact (hg.above b hb (lt_of_block h)).trans h

theorem Blk2.kept {B C b t : Nat} {w w' : World} {x y : Value} (h : Blk2 w b t x y) (hg : OnlyIn B C w w') (ht : t ≠ 3) : Blk2 w' b t x y := (hg.kept b _ t ht h).trans h
/-- How many numbers a graph has. -/
def totalG (ls : List (List Int)) (l : List Int) : Nat := total ls + l.length
theorem GrownL.more {w w1 : World} {L M : List (Value × List Int)} (h : GrownL w w1 L) (hs : ∀ p ∈ L, p ∈ M) : GrownL w w1 M :=
  ⟨h.os, h.tape, h.output, h.size, fun i hi hne => h.block i hi (fun p hp => hne p (hs p hp))⟩

set_option maxRecDepth 20000 in
set_option maxHeartbeats 4000000 in
theorem markGraph_any (ls : List (List Int)) (l : List Int) (k B : Nat) (v : Value) (w0 w : World) (h0 : GraphO B w0 v ls l) (hb0 : Below w0.heap.size w0 w) (hB : B ≤ w0.heap.size) (hl : ls.length + total ls + l.length ≤ 1500000) (hk : k ≤ 1000) :
    Calls Tryz.prog 43 #[v, .int .i64 (k : Int)] w fun e w' => e = .returned (.int .i64 ((k + totalG ls l : Nat) : Int)) ∧ GraphO B w' v (marksL k ls) (marks ((k + total ls : Nat) : Int) l.length) ∧ OnlyIn B w0.heap.size w w' := by
  obtain ⟨nv, ov, sl, rfl, hs, hn, hL⟩ := h0
  have hlt : ∀ p ∈ sl.zip ls ++ [(ov, l)], ∀ i, p.1.ownBlock = some i → B ≤ i ∧ i < w0.heap.size := fun p hp i hi => (hL.1 p hp).lt i hi
  have HLT := Lib.hid hlt
  have hnw := own_below hn hb0
  have hLw := hL.below hb0
  obtain ⟨an, cn, rfl⟩ := own_slice hn
  obtain ⟨ao, co, hov⟩ := own_slice (hL.1 (ov, l) (List.mem_append.2 (.inr (List.mem_singleton.2 rfl))))
  simp only at hov
  subst hov
  obtain ⟨wa, hwa⟩ : ∃ wa, wa = w.alloc (.cells #[.slice an ls.length cn, .slice ao l.length co] 42) := ⟨_, rfl⟩
  have P0 : Hid (Blk2 wa w.heap.size 42 (.slice an ls.length cn) (.slice ao l.length co)) := by rw [hwa]; exact Blk2.new
  have hAw : Below w.heap.size w wa := by rw [hwa]; exact (Below.refl w.heap.size w).alloc (Nat.le_refl _) _
  have HA := Lib.hid hAw
  have hsa : wa.heap.size = w.heap.size + 1 := by rw [hwa]; simp
  have hsw : w0.heap.size ≤ w.heap.size := hb0.size
  have HN := Lib.hid (own_below hnw hAw)
  have HL := Lib.hid (hLw.below hAw)
  have HWA := Lib.hid hwa
  have HC := Lib.hid (markIntSS_any ls [(.slice ao l.length co, l)] k B B _ sl wa hs HN.out HL.out (by omega) (by omega))
  have hpb : ∀ (L : List (Value × List Int)) (x y : World), GrownL x y L → (∀ p ∈ L, p ∈ sl.zip ls ++ [(.slice ao l.length co, l)]) → w.heap.size < x.heap.size → x.heap[w.heap.size]? = y.heap[w.heap.size]? := by
    intro L x y hg hm hx
    refine (hg.block w.heap.size hx (fun p hp hi => ?_)).symm
    have := (HLT.out p (hm p hp) _ hi).2
    omega
  have HPB := Lib.hid hpb
  clear hlt hnw hLw hn hL hAw hwa hpb hb0
  go_enter Tryz.func43, Tryz.ntmps43
  go_wp2_with fail
  rw [← HWA.out]
  refine HC.out.mono ?_
  rintro e w1 ⟨rfl, hL1, hg1⟩
  have hm1 : ∀ p ∈ sl.zip ls, p ∈ sl.zip ls ++ [(Value.slice ao l.length co, l)] := fun p hp => List.mem_append.2 (.inl hp)
  have P1 := Lib.hid (show Blk2 w1 w.heap.size 42 (.slice an ls.length cn) (.slice ao l.length co) from (HPB.out _ _ _ hg1 hm1 (by omega)).symm.trans P0.out)
  have hn1 := own_grownL HN.out (by decide) HL.out.left hg1
  have c1 := P1.out.cells.2
  have hone := hL1.1 (.slice ao l.length co, l) (List.mem_append.2 (.inr (List.mem_singleton.2 rfl)))
  have HC2 := Lib.hid (markIntS_l (l := l) (k := k + total ls) (i := ((k + total ls : Nat) : Int)) (r := ((k + totalG ls l : Nat) : Int)) rfl (by unfold totalG; omega) hone (by omega) (by omega))
  have HG1 := Lib.hid (hg1.more hm1)
  have HL1 := Lib.hid hL1
  have HN1 := Lib.hid hn1
  clear hL1 hg1 hn1 hone hm1 HC
  generalize hq : k + total ls = q at *
  have HQ := Lib.hid hq
  clear hq
  go_wp2_with fail
  refine HC2.out.mono ?_
  rintro e w2 ⟨rfl, ho2, hg2⟩
  have HF : Hid (GraphO B w2 (.agg #[.slice an ls.length cn, .slice ao l.length co]) (marksL k ls) (marks (q : Int) l.length) ∧ OnlyIn B w0.heap.size w w2) := by
    have hL2 := HL1.out.turn (L := sl.zip (marksL k ls)) (M := []) (v' := .slice ao l.length co) (l' := marks (q : Int) l.length) hg2 (by rw [marks_len]; exact ho2) (fun b hb => .inl hb)
    have hg := HG1.out.one hg2 (l := l) (List.mem_append.2 (.inr (List.mem_singleton.2 rfl)))
    have hml := marksL_len k ls
    refine ⟨⟨_, _, sl, rfl, by rw [hml]; exact hs, ?_, hL2⟩, ?_, fun i hi hiw => ?_, fun i cs e he hi => ?_⟩
    · rw [hml]
      exact own_apartI HN1.out hg2 (fun i hi hi' => own_typesI HN1.out (HL1.out.1 (.slice ao l.length co, l) (List.mem_append.2 (.inr (List.mem_singleton.2 rfl)))) (by decide) i hi' hi)
    · have := hg.below HL.out (by omega)
      exact HA.out.mono (by omega) |>.trans this
    · have h1 := hg.block i (by omega) (fun p hp hpi => by have := (HLT.out p hp i hpi).2; omega)
      exact h1.trans (HA.out.block i hiw)
    · have hiw := lt_of_block hi
      have hi' := (HA.out.block i hiw).trans hi
      have h1 := hg.block i (by omega) (fun p hp hpi => by
        rcases (HL.out.1 p hp).2 with ⟨hv, _⟩ | ⟨g, cap, cur, hv, _, hg', _⟩
        · rw [hv] at hpi; simp [Value.ownBlock] at hpi
        · rw [hv] at hpi
          simp only [Value.ownBlock, Option.some.injEq] at hpi
          subst hpi
          rw [hi'] at hg'
          simp at hg'
          exact he hg'.2)
      exact h1.trans (HA.out.block i hiw)
  clear ho2 hg2
  go_wp2_with fail
  go_ret
  exact ⟨rfl, by rw [HQ.out]; exact HF.out.1, HF.out.2⟩

end Go.Proofs.YtngldlconipnnaaGreat
