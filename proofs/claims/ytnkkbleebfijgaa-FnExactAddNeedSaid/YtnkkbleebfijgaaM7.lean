/- Texts of one claim, joined in their order. -/
import Derived.Lib.SliceRun
import Derived.Lib.OwnBridge
import Derived.Sort.OwnSortedInts
import Derived.Maps.AppendAt
import Derived.Test.YtnkkbleebfijgaaM6
import Derived.Test.YtnkkbleebfijgaaM3
import Derived.Test.YtnkkbleebfijgaaM4

/- Plain mathematics of a mended order: marks along a stretch, places that are taken, what moved. -/
namespace Go.Proofs.Ytnkkbleebfijgaa
open Go.RowKit Pth

/-- What leads on to a task stands behind it. -/
theorem Up.pos_le {ls : List (List Int)} {l : List Int} (hg : GoodP ls l) {t y : Int} (hy : y ∈ l) (h : Up ls (· = t) y) : t ∈ l ∧ pos l t ≤ pos l y := by
  induction h with
  | base h => subst h; exact ⟨hy, Nat.le_refl _⟩
  | @step k x h0 hx _ ih =>
    obtain ⟨i, hi, rfl⟩ := List.getElem_of_mem hy
    have hm := hg.needs_take hi hx
    have h1 := (mem_take_pos.1 hm).2
    have h2 := ih (List.mem_of_mem_take hm)
    rw [pos_nodup hg.nodup hi]
    exact ⟨h2.1, by omega⟩
theorem up_way {ls : List (List Int)} {l : List Int} (hg : GoodP ls l) {t y : Int} (hy : y ∈ l) : Up ls (· = t) y ↔ 0 ≤ farI ls t y := by
  constructor
  · intro h
    have key : ∀ {y}, Up ls (· = t) y → ∃ m, Pth.Way ls t m y := by
      intro y h
      induction h with
      | base h => exact ⟨0, h⟩
      | step _ hx _ ih => obtain ⟨m, hm⟩ := ih; exact ⟨m + 1, _, hx, hm⟩
    obtain ⟨m, hm⟩ := key h
    exact (farI_le hm).1
  · intro h
    have key : ∀ (m : Nat) {y : Int}, y ∈ l → Pth.Way ls t m y → Up ls (· = t) y := by
      intro m
      induction m with
      | zero => intro y _ h; exact .base h
      | succ m ih =>
        intro y hy h
        obtain ⟨x, hx, hw⟩ := h
        obtain ⟨i, hi, rfl⟩ := List.getElem_of_mem hy
        exact .step (hg.range _ hy).1 hx (ih (List.mem_of_mem_take (hg.needs_take hi hx)) hw)
    exact key _ hy (farI_way h)
theorem up_trans {ls : List (List Int)} {s t y : Int} (h : Up ls (· = s) y) (h2 : Up ls (· = t) s) : Up ls (· = t) y := h.twice (fun x hx => by rw [hx]; exact h2)
theorem dn_up {ls : List (List Int)} {l : List Int} (hg : GoodP ls l) {z y : Int} (hz : z ∈ l) (hy : y ∈ l) : Dn ls (· = z) y ↔ Up ls (· = y) z := by
  constructor
  · intro h
    have key : ∀ {y : Int}, Dn ls (· = z) y → Up ls (· = y) z := by
      intro y h
      induction h with
      | base h => exact .base h.symm
      | step h0 hx _ ih => exact up_trans ih (.step h0 hx (.base rfl))
    exact key h
  · intro h
    have key : ∀ {z : Int}, Up ls (· = y) z → Dn ls (· = z) y := by
      intro z h
      induction h with
      | base h => exact .base h.symm
      | @step k x h0 hx _ ih => exact ih.twice (fun u hu => by rw [hu]; exact .step h0 hx (.base rfl))
    exact key h

/-- Along the order, up to a place. -/
theorem up_part {ls : List (List Int)} {l : List Int} (hg : GoodP ls l) {P : Int → Prop} {S : Nat → Int → Prop} (K : Nat) (h0 : ∀ y ∈ l, S 0 y ↔ P y)
    (hs : ∀ k (hk : k < l.length), k < K → ∀ y ∈ l, (S (k + 1) y ↔ S k y ∨ (y = l[k] ∧ ∃ x ∈ needsAt ls l[k], S k x))) :
    ∀ k, k ≤ l.length → k ≤ K → ∀ y ∈ l, (S k y ↔ P y ∨ (y ∈ l.take k ∧ Up ls P y)) := by
  intro k
  induction k with
  | zero => intro _ _ y hy; rw [h0 y hy]; simp
  | succ k ih =>
    intro hk hK y hy
    have hk' : k < l.length := by omega
    rw [hs k hk' (by omega) y hy, ih (by omega) (by omega) y hy]
    have hu0 := (hg.range l[k] (List.getElem_mem hk')).1
    constructor
    · rintro ((h | ⟨h1, h2⟩) | ⟨rfl, x, hx, hxs⟩)
      · exact .inl h
      · exact .inr ⟨List.mem_of_mem_take (i := k) (by rw [List.take_take, Nat.min_eq_left (by omega)]; exact h1), h2⟩
      · have hxl := hg.needs_take hk' hx
        refine .inr ⟨by rw [List.take_succ_eq_append_getElem hk']; exact List.mem_append.2 (.inr (List.mem_singleton.2 rfl)), ?_⟩
        rcases (ih (by omega) (by omega) x (List.mem_of_mem_take hxl)).1 hxs with h | ⟨_, h⟩
        · exact .step hu0 hx (.base h)
        · exact .step hu0 hx h
    · rintro (h | ⟨h1, h2⟩)
      · exact .inl (.inl h)
      · rw [List.take_succ_eq_append_getElem hk', List.mem_append, List.mem_singleton] at h1
        rcases h1 with h1 | rfl
        · exact .inl (.inr ⟨h1, h2⟩)
        · cases h2 with
          | base h => exact .inl (.inl h)
          | @step _ x _ hx hux =>
            have hxl := hg.needs_take hk' hx
            exact .inr ⟨rfl, x, hx, (ih (by omega) (by omega) x (List.mem_of_mem_take hxl)).2 (.inr ⟨hxl, hux⟩)⟩
/-- Against the order, down to a place. -/
theorem dn_part {ls : List (List Int)} {l : List Int} (hg : GoodP ls l) {P : Int → Prop} {S : Nat → Int → Prop} (K : Nat) (h0 : ∀ y ∈ l, S 0 y ↔ P y)
    (hs : ∀ k (hk : k < l.length), K ≤ k → ∀ y ∈ l, (S (l.length - k) y ↔ S (l.length - (k + 1)) y ∨ (S (l.length - (k + 1)) l[k] ∧ y ∈ needsAt ls l[k]))) :
    ∀ j, j ≤ l.length → K ≤ l.length - j → ∀ y ∈ l, (S j y ↔ P y ∨ ∃ i, ∃ hi : i < l.length, l.length - j ≤ i ∧ Dn ls P l[i] ∧ y ∈ needsAt ls l[i]) := by
  intro j
  induction j with
  | zero =>
    intro _ _ y hy
    rw [h0 y hy]
    constructor
    · exact .inl
    · rintro (h | ⟨i, hi, h, _⟩)
      · exact h
      · omega
  | succ j ih =>
    intro hj hK y hy
    have hk : l.length - (j + 1) < l.length := by omega
    have hst := hs (l.length - (j + 1)) hk (by omega) y hy
    rw [show l.length - (l.length - (j + 1)) = j + 1 by omega, show l.length - (l.length - (j + 1) + 1) = j by omega] at hst
    have hul := List.getElem_mem hk
    have hU : S j l[l.length - (j + 1)] ↔ Dn ls P l[l.length - (j + 1)] := by
      rw [ih (by omega) (by omega) _ hul]
      constructor
      · rintro (h | ⟨i, hi, _, h, hm⟩)
        · exact .base h
        · exact .step (hg.range _ (List.getElem_mem hi)).1 hm h
      · intro h
        cases h with
        | base h => exact .inl h
        | step hv0 hm hv =>
          rename_i v
          obtain ⟨i, hi, rfl⟩ := List.getElem_of_mem (hg.all.2 ⟨hv0, needs_in hv0 hm⟩)
          have h1 := (mem_take_pos.1 (hg.needs_take hi hm)).2
          rw [pos_nodup hg.nodup hk] at h1
          exact .inr ⟨i, hi, by omega, hv, hm⟩
    rw [hst, ih (by omega) (by omega) y hy, hU]
    constructor
    · rintro ((h | ⟨i, hi, h1, h2, h3⟩) | ⟨h1, h2⟩)
      · exact .inl h
      · exact .inr ⟨i, hi, by omega, h2, h3⟩
      · exact .inr ⟨_, hk, Nat.le_refl _, h1, h2⟩
    · rintro (h | ⟨i, hi, h1, h2, h3⟩)
      · exact .inl (.inl h)
      · rcases Nat.lt_or_ge i (l.length - j) with h4 | h4
        · obtain rfl : i = l.length - (j + 1) := by omega
          exact .inr ⟨h2, h3⟩
        · exact .inl (.inr ⟨i, hi, h4, h2, h3⟩)

/-- The stretch between two places. -/
def strL (l : List Int) (lo hi : Nat) : List Int := (l.take (hi + 1)).drop lo
theorem mem_strL {l : List Int} (hn : l.Nodup) {lo hi : Nat} {y : Int} : y ∈ strL l lo hi ↔ y ∈ l ∧ lo ≤ pos l y ∧ pos l y ≤ hi := by
  unfold strL
  constructor
  · intro h
    obtain ⟨i, hi', rfl⟩ := List.getElem_of_mem h
    rw [List.length_drop, List.length_take] at hi'
    rw [List.getElem_drop, List.getElem_take]
    have hl : lo + i < l.length := by omega
    exact ⟨List.getElem_mem hl, by rw [pos_nodup hn hl]; omega, by rw [pos_nodup hn hl]; omega⟩
  · rintro ⟨hm, h1, h2⟩
    rw [List.mem_iff_getElem]
    have hp := pos_lt hm
    refine ⟨pos l y - lo, by rw [List.length_drop, List.length_take]; omega, ?_⟩
    rw [List.getElem_drop, List.getElem_take]
    have e : lo + (pos l y - lo) = pos l y := by omega
    simp only [e]
    exact pos_get hm
theorem mark_one {n t : Nat} {z : Int} (ht : t < n) (hz : 0 ≤ z) : markB ((List.replicate n false).set t true) z = true ↔ z = (t : Int) := by
  rw [markB_set (by simpa using ht) hz, markB_none]
  by_cases h : z = (t : Int) <;> simp [h]

theorem users_stretch {ls : List (List Int)} {l : List Int} (hg : GoodP ls l) {t : Nat} (ht : t < ls.length) {lo hi : Nat} (hlo : pos l (t : Int) = lo) (hhi : hi < l.length) :
    ∀ y ∈ strL l lo hi, (markB (markUs ls ((List.replicate ls.length false).set t true) (strL l lo hi)) y = true ↔ Up ls (· = (t : Int)) y) := by
  intro y hy
  have hyl := ((mem_strL hg.nodup).1 hy)
  have htl : (t : Int) ∈ l := hg.all.2 ⟨by omega, by omega⟩
  have := up_part hg (P := (· = (t : Int))) (S := fun k y => markB (markUs ls ((List.replicate ls.length false).set t true) ((l.take k).drop lo)) y = true) (hi + 1) (fun y hy => by
    show markB (markUs ls _ ((l.take 0).drop lo)) y = true ↔ _
    simp only [List.take_zero, List.drop_nil]
    exact mark_one ht (hg.range y hy).1) (fun k hk _ y hy => by
    show markB (markUs ls _ ((l.take (k + 1)).drop lo)) y = true ↔ markB (markUs ls _ ((l.take k).drop lo)) y = true ∨ _
    rcases Nat.lt_or_ge k lo with h | h
    · rw [List.drop_of_length_le (by rw [List.length_take]; omega), List.drop_of_length_le (by rw [List.length_take]; omega)]
      constructor
      · exact .inl
      · rintro (h1 | ⟨_, x, hx, h1⟩)
        · exact h1
        · have hxl := hg.needs_take hk hx
          have e := (mark_one ht (hg.range x (List.mem_of_mem_take hxl)).1).1 h1
          have := (mem_take_pos.1 hxl).2
          rw [e, hlo] at this
          omega
    · rw [List.take_succ_eq_append_getElem hk, List.drop_append_of_le_length (by rw [List.length_take]; omega), markUs_snoc]
      have hr := hg.range _ (List.getElem_mem hk)
      obtain ⟨u, hu⟩ : ∃ u : Nat, l[k] = u := ⟨l[k].toNat, by omega⟩
      have hs := hg.self hk
      have hn0 : ∀ x ∈ needsAt ls l[k], 0 ≤ x := fun x hx => (hg.range x (List.mem_of_mem_take (hg.needs_take hk hx))).1
      rw [hu] at hs hn0 ⊢
      rw [show ((u : Int)).toNat = u by omega]
      exact markOne_mem hs hn0 (by rw [markUs_len, List.length_set, List.length_replicate]; omega) (hg.range y hy).1) (hi + 1) (by omega) (Nat.le_refl _) y hyl.1
  rw [show strL l lo hi = (l.take (hi + 1)).drop lo from rfl, this]
  constructor
  · rintro (h | ⟨_, h⟩)
    · exact .base h
    · exact h
  · exact fun h => .inr ⟨by rw [mem_take_pos]; exact ⟨hyl.1, by omega⟩, h⟩

theorem needs_stretch {ls : List (List Int)} {l : List Int} (hg : GoodP ls l) {t : Nat} (ht : t < ls.length) {lo hi : Nat} (hhi : pos l (t : Int) = hi) (hlo : lo ≤ hi) :
    ∀ y ∈ strL l lo hi, (markB (markNd ls ((List.replicate ls.length false).set t true) (strL l lo hi)) y = true ↔ Dn ls (· = (t : Int)) y) := by
  intro y hy
  have hyl := ((mem_strL hg.nodup).1 hy)
  have htl : (t : Int) ∈ l := hg.all.2 ⟨by omega, by omega⟩
  have hp := pos_lt htl
  have := dn_part hg (P := (· = (t : Int))) (S := fun j y => markB (markNd ls ((List.replicate ls.length false).set t true) ((l.take (hi + 1)).drop (l.length - j))) y = true) lo (fun y hy => by
    show markB (markNd ls _ ((l.take (hi + 1)).drop (l.length - 0))) y = true ↔ _
    rw [List.drop_of_length_le (by rw [List.length_take]; omega)]
    exact mark_one ht (hg.range y hy).1) (fun k hk _ y hy => by
    show markB (markNd ls _ ((l.take (hi + 1)).drop (l.length - (l.length - k)))) y = true ↔ markB (markNd ls _ ((l.take (hi + 1)).drop (l.length - (l.length - (k + 1))))) y = true ∨ (markB (markNd ls _ ((l.take (hi + 1)).drop (l.length - (l.length - (k + 1))))) l[k] = true ∧ _)
    rw [show l.length - (l.length - k) = k by omega, show l.length - (l.length - (k + 1)) = k + 1 by omega]
    have hr := hg.range _ (List.getElem_mem hk)
    rcases Nat.lt_or_ge hi k with h | h
    · rw [List.drop_of_length_le (by rw [List.length_take]; omega), List.drop_of_length_le (by rw [List.length_take]; omega)]
      constructor
      · exact .inl
      · rintro (h1 | ⟨h1, _⟩)
        · exact h1
        · have e := (mark_one ht hr.1).1 h1
          have := pos_nodup hg.nodup hk
          rw [e, hhi] at this
          omega
    · have hk2 : k < (l.take (hi + 1)).length := by rw [List.length_take]; omega
      rw [markNd_drop hk2, List.getElem_take]
      refine markStep_mem (fun x hx => ?_) (hg.range y hy).1
      rw [markNd_len, List.length_set, List.length_replicate]
      exact hg.range x (List.mem_of_mem_take (hg.needs_take hk hx))) (l.length - lo) (by omega) (by omega) y hyl.1
  rw [show l.length - (l.length - lo) = lo by omega] at this
  rw [show strL l lo hi = (l.take (hi + 1)).drop lo from rfl, this]
  constructor
  · rintro (h | ⟨i, hi', _, h, hm⟩)
    · exact .base h
    · exact .step (hg.range _ (List.getElem_mem hi')).1 hm h
  · intro h
    cases h with
    | base h => exact .inl h
    | step hv0 hm hv =>
      obtain ⟨i, hi', rfl⟩ := List.getElem_of_mem (hg.all.2 ⟨hv0, needs_in hv0 hm⟩)
      have h1 := (mem_take_pos.1 (hg.needs_take hi' hm)).2
      exact .inr ⟨i, hi', by omega, hv, hm⟩
end Go.Proofs.Ytnkkbleebfijgaa

/- Plain mathematics of a mended order: places taken anew, and what moved. -/
namespace Go.Proofs.Ytnkkbleebfijgaa
open Go.RowKit Pth

/-- The first so many places at which p holds. -/
def locK (st : List Int) (p : Int → Bool) (j : Nat) : List Nat := (List.range j).filter (fun i => p (st.getD i 0))
theorem locK_yes {st : List Int} {p : Int → Bool} {j : Nat} (hj : j < st.length) (h : p st[j] = true) : locK st p (j + 1) = locK st p j ++ [j] := by
  unfold locK; rw [List.range_succ, List.filter_append]; simp [hj, h]
theorem locK_no {st : List Int} {p : Int → Bool} {j : Nat} (hj : j < st.length) (h : p st[j] = false) : locK st p (j + 1) = locK st p j := by
  unfold locK; rw [List.range_succ, List.filter_append]; simp [hj, h]
theorem locK_len (st : List Int) (p : Int → Bool) (j : Nat) : (locK st p j).length ≤ j := by
  have := List.length_filter_le (fun i => p (st.getD i 0)) (List.range j); rwa [List.length_range] at this
theorem mem_locK {st : List Int} {p : Int → Bool} {j i : Nat} : i ∈ locK st p j ↔ i < j ∧ p (st.getD i 0) = true := by
  unfold locK; rw [List.mem_filter, List.mem_range]
theorem locK_nodup (st : List Int) (p : Int → Bool) (j : Nat) : (locK st p j).Nodup := List.nodup_range.filter _
theorem locK_map {st : List Int} {p : Int → Bool} : ∀ {j : Nat}, j ≤ st.length → (locK st p j).map (fun i => st.getD i 0) = (st.take j).filter p := by
  intro j
  induction j with
  | zero => intro _; simp [locK]
  | succ j ih =>
    intro hj
    have hj' : j < st.length := by omega
    rcases h : p st[j] with _ | _
    · rw [locK_no hj' h, ih (by omega), filter_no hj' h]
    · rw [locK_yes hj' h, List.map_append, ih (by omega), filter_yes hj' h]; simp [hj']
theorem locK_congr {st : List Int} {p q : Int → Bool} (h : ∀ y ∈ st, p y = q y) {j : Nat} (hj : j ≤ st.length) : locK st p j = locK st q j := by
  unfold locK
  refine List.filter_congr (fun i hi => ?_)
  rw [List.mem_range] at hi
  have : st.getD i 0 ∈ st := by rw [List.getD_eq_getElem?_getD, List.getElem?_eq_getElem (by omega)]; exact List.getElem_mem _
  exact h _ this

/-- Places taken anew. -/
def newO (l : List Int) (ps : List Nat) (mv : List Int) : List Int := (ps.zip mv).foldl (fun s pm => s.set pm.1 pm.2) l
theorem newO_len (ps : List Nat) : ∀ (mv l : List Int), (newO l ps mv).length = l.length := by
  induction ps with
  | nil => intro mv l; rfl
  | cons p r ih =>
    intro mv l
    cases mv with
    | nil => rfl
    | cons m t => show (newO (l.set p m) r t).length = _; rw [ih, List.length_set]
theorem newO_snoc {l : List Int} {ps : List Nat} {mv : List Int} {i : Nat} (hp : i < ps.length) (hm : i < mv.length) : newO l (ps.take (i + 1)) (mv.take (i + 1)) = (newO l (ps.take i) (mv.take i)).set ps[i] mv[i] := by
  unfold newO
  rw [List.take_succ_eq_append_getElem hp, List.take_succ_eq_append_getElem hm, List.zip_append (by rw [List.length_take, List.length_take]; omega), List.foldl_append]
  rfl
theorem newO_other (ps : List Nat) : ∀ (mv l : List Int) {q : Nat}, q ∉ ps → (newO l ps mv).getD q 0 = l.getD q 0 := by
  induction ps with
  | nil => intro mv l q _; rfl
  | cons p r ih =>
    intro mv l q hq
    rw [List.mem_cons, not_or] at hq
    cases mv with
    | nil => rfl
    | cons m t =>
      show (newO (l.set p m) r t).getD q 0 = _
      rw [ih _ _ hq.2, List.getD_eq_getElem?_getD, List.getD_eq_getElem?_getD, List.getElem?_set_ne (fun e => hq.1 e.symm)]
theorem newO_at (ps : List Nat) : ∀ (mv l : List Int) (_ : ps.Nodup) (_ : ∀ p ∈ ps, p < l.length) {i : Nat} (hi : i < ps.length) (hm : i < mv.length), (newO l ps mv).getD ps[i] 0 = mv[i] := by
  induction ps with
  | nil => intro mv l _ _ i hi; simp at hi
  | cons p r ih =>
    intro mv l hn hr i hi hm
    rw [List.nodup_cons] at hn
    cases mv with
    | nil => simp at hm
    | cons m t =>
      show (newO (l.set p m) r t).getD _ 0 = _
      cases i with
      | zero =>
        show (newO (l.set p m) r t).getD p 0 = m
        rw [newO_other _ _ _ hn.1, List.getD_eq_getElem?_getD, List.getElem?_set_self (hr p (by simp))]
        rfl
      | succ i =>
        exact ih t (l.set p m) hn.2 (fun q hq => by rw [List.length_set]; exact hr q (by simp [hq])) (by simpa using hi) (by simpa using hm)

/-- What moved, as the reference gathers it. -/
def movK (l : List Int) (z : List (Nat × Int)) : List Int := z.foldl (fun o pm => if l.getD pm.1 0 = pm.2 then o else putL o pm.2) []
theorem movK_snoc (l : List Int) (z : List (Nat × Int)) (pm : Nat × Int) : movK l (z ++ [pm]) = if l.getD pm.1 0 = pm.2 then movK l z else putL (movK l z) pm.2 := by
  unfold movK; rw [List.foldl_append]; rfl
theorem movK_ind {l : List Int} {motive : List (Nat × Int) → List Int → Prop} (h0 : motive [] []) (hs : ∀ z pm o, motive z o → motive (z ++ [pm]) (if l.getD pm.1 0 = pm.2 then o else putL o pm.2)) : ∀ z, motive z (movK l z) := by
  intro z
  have : ∀ n (z : List (Nat × Int)), z.length = n → motive z (movK l z) := by
    intro n
    induction n with
    | zero => intro z h; rw [List.eq_nil_of_length_eq_zero h]; exact h0
    | succ n ih =>
      intro z h
      have hne : z ≠ [] := fun e => by rw [e] at h; simp at h
      rw [← List.dropLast_concat_getLast hne, movK_snoc]
      exact hs _ _ _ (ih _ (by rw [List.length_dropLast]; omega))
  exact this _ z rfl
theorem movK_rise (l : List Int) (z : List (Nat × Int)) : Rise (movK l z) := by
  refine movK_ind (motive := fun _ o => Rise o) (by simp [Rise]) (fun z pm o h => ?_) z
  split
  · exact h
  · exact put_rise h
theorem mem_movK (l : List Int) (z : List (Nat × Int)) : ∀ y, y ∈ movK l z ↔ ∃ pm ∈ z, l.getD pm.1 0 ≠ pm.2 ∧ y = pm.2 := by
  refine movK_ind (motive := fun z o => ∀ y, y ∈ o ↔ ∃ pm ∈ z, l.getD pm.1 0 ≠ pm.2 ∧ y = pm.2) (by simp) (fun z pm o h y => ?_) z
  by_cases he : l.getD pm.1 0 = pm.2
  · rw [if_pos he, h y]
    constructor
    · rintro ⟨q, hq, h1, h2⟩; exact ⟨q, by simp [hq], h1, h2⟩
    · rintro ⟨q, hq, h1, h2⟩
      rw [List.mem_append, List.mem_singleton] at hq
      rcases hq with hq | rfl
      · exact ⟨q, hq, h1, h2⟩
      · exact absurd he h1
  · rw [if_neg he, mem_put, h y]
    constructor
    · rintro (rfl | ⟨q, hq, h1, h2⟩)
      · exact ⟨pm, by simp, he, rfl⟩
      · exact ⟨q, by simp [hq], h1, h2⟩
    · rintro ⟨q, hq, h1, h2⟩
      rw [List.mem_append, List.mem_singleton] at hq
      rcases hq with hq | rfl
      · exact .inr ⟨q, hq, h1, h2⟩
      · exact .inl h2
theorem movK_len (l : List Int) (z : List (Nat × Int)) : (movK l z).length ≤ z.length := by
  refine movK_ind (motive := fun z o => o.length ≤ z.length) (by simp) (fun z pm o h => ?_) z
  rw [List.length_append, List.length_singleton]
  split
  · omega
  · have key : ∀ (o : List Int) (n : Int), (putL o n).length ≤ o.length + 1 := by
      intro o n
      induction o with
      | nil => simp [putL]
      | cons x t ih =>
        unfold putL
        split
        · simp only [List.length_cons]; omega
        · split
          · simp only [List.length_cons]; omega
          · simp only [List.length_cons]; omega
    have := key o pm.2; omega

theorem mem_moved {a b : List Int} (hl : b.length = a.length) {y : Int} : y ∈ movedL a b ↔ ∃ k, k < a.length ∧ a.getD k 0 = y ∧ b.getD k 0 ≠ y := by
  unfold movedL
  rw [List.mem_map]
  constructor
  · rintro ⟨p, hp, rfl⟩
    rw [List.mem_filter] at hp
    obtain ⟨k, hk, he⟩ := List.getElem_of_mem hp.1
    rw [List.length_zip] at hk
    rw [List.getElem_zip] at he
    subst he
    refine ⟨k, by omega, ?_, ?_⟩
    · rw [List.getD_eq_getElem?_getD, List.getElem?_eq_getElem (by omega)]; rfl
    · rw [List.getD_eq_getElem?_getD, List.getElem?_eq_getElem (by omega)]; simpa using hp.2
  · rintro ⟨k, hk, h1, h2⟩
    have e1 : a.getD k 0 = a[k] := by rw [List.getD_eq_getElem?_getD, List.getElem?_eq_getElem hk]; rfl
    have e2 : b.getD k 0 = b[k] := by rw [List.getD_eq_getElem?_getD, List.getElem?_eq_getElem (by omega)]; rfl
    rw [e1] at h1
    rw [e2] at h2
    refine ⟨(a[k], b[k]), ?_, h1⟩
    rw [List.mem_filter]
    refine ⟨?_, by simpa [h1] using h2⟩
    rw [List.mem_iff_getElem]
    exact ⟨k, by rw [List.length_zip]; omega, by rw [List.getElem_zip]⟩
theorem moved_nodup {a b : List Int} (h : a.Nodup) : (movedL a b).Nodup := by
  have key : ∀ (a b : List Int), (movedL a b).Sublist a := by
    intro a
    induction a with
    | nil => intro b; simp [movedL]
    | cons x t ih =>
      intro b
      cases b with
      | nil => simp [movedL]
      | cons y r =>
        unfold movedL
        rw [List.zip_cons_cons, List.filter_cons]
        split
        · rw [List.map_cons]; exact (ih r).cons_cons x
        · exact (ih r).cons x
  exact h.sublist (key a b)
theorem getD_in {l : List Int} {k : Nat} (hk : k < l.length) : l.getD k 0 = l[k] := by rw [List.getD_eq_getElem?_getD, List.getElem?_eq_getElem hk]; rfl
theorem moved_same {l : List Int} {ps : List Nat} {mv : List Int} (hn : l.Nodup) (hps : ps.Nodup) (hr : ∀ p ∈ ps, p < l.length) (hlen : ps.length = mv.length) (hp : mv.Perm (ps.map (fun i => l.getD i 0))) :
    sortI (movedL l (newO l ps mv)) = movK l (ps.zip mv) := by
  have hinj : ∀ i j (hi : i < ps.length) (hj : j < ps.length), l.getD ps[i] 0 = l.getD ps[j] 0 → i = j := by
    intro i j hi hj h
    have h1 := hr _ (List.getElem_mem hi)
    have h2 := hr _ (List.getElem_mem hj)
    rw [getD_in h1, getD_in h2] at h
    exact (List.getElem_inj hps).1 ((List.getElem_inj hn).1 h)
  have hmn : mv.Nodup := by
    rw [hp.nodup_iff, List.nodup_iff_pairwise_ne, List.pairwise_iff_getElem]
    intro i j hi hj hij e
    simp only [List.getElem_map] at e
    have := hinj i j (by simpa using hi) (by simpa using hj) e
    omega
  have hmem : ∀ y, y ∈ mv ↔ ∃ i, ∃ hi : i < ps.length, l.getD ps[i] 0 = y := by
    intro y
    rw [hp.mem_iff, List.mem_map]
    constructor
    · rintro ⟨p, hpm, he⟩
      obtain ⟨i, hi, rfl⟩ := List.getElem_of_mem hpm
      exact ⟨i, hi, he⟩
    · rintro ⟨i, hi, he⟩; exact ⟨_, List.getElem_mem hi, he⟩
  have hrise : Rise (sortI (movedL l (newO l ps mv))) := by
    have hd : (sortI (movedL l (newO l ps mv))).Nodup := (sortI_perm _).nodup_iff.2 (moved_nodup hn)
    have h2 := List.Pairwise.and (sortI_sorted (movedL l (newO l ps mv))) hd
    exact h2.imp (fun h => by omega)
  refine rise_ext hrise (movK_rise _ _) (fun y => ?_)
  rw [(sortI_perm _).mem_iff, mem_moved (newO_len _ _ _), mem_movK]
  constructor
  · rintro ⟨k, hk, h1, h2⟩
    by_cases hkp : k ∈ ps
    · obtain ⟨j, hj, rfl⟩ := List.getElem_of_mem hkp
      rw [newO_at ps mv l hps hr hj (by omega)] at h2
      obtain ⟨i, hi, he⟩ := List.getElem_of_mem ((hmem y).2 ⟨j, hj, h1⟩)
      have hij : i ≠ j := fun e => by subst e; exact h2 he
      refine ⟨(ps[i]'(by omega), mv[i]), ?_, ?_, he.symm⟩
      · rw [List.mem_iff_getElem]; exact ⟨i, by rw [List.length_zip]; omega, by rw [List.getElem_zip]⟩
      · intro e
        have e' : l.getD (ps[i]'(by omega)) 0 = y := e.trans he
        exact hij (hinj i j (by omega) hj (e'.trans h1.symm))
    · rw [newO_other _ _ _ hkp] at h2
      exact absurd h1 h2
  · rintro ⟨pm, hpm, h1, rfl⟩
    obtain ⟨i, hi, he⟩ := List.getElem_of_mem hpm
    rw [List.length_zip] at hi
    rw [List.getElem_zip] at he
    subst he
    obtain ⟨j, hj, he⟩ := (hmem mv[i]).1 (List.getElem_mem (by omega))
    refine ⟨ps[j], hr _ (List.getElem_mem hj), he, ?_⟩
    rw [newO_at ps mv l hps hr hj (by omega)]
    intro e
    have hji : j = i := (List.getElem_inj hmn).1 e
    subst hji
    exact h1 he
theorem filter_two {A B : Int → Bool} : ∀ (st : List Int), (∀ y ∈ st, ¬ (A y = true ∧ B y = true)) → (st.filter A ++ st.filter B).Perm (st.filter (fun y => A y || B y)) := by
  intro st
  induction st with
  | nil => intro _; simp
  | cons x t ih =>
    intro h
    have iht := ih (fun y hy => h y (by simp [hy]))
    have hx := h x (by simp)
    rw [List.filter_cons, List.filter_cons, List.filter_cons]
    cases ha : A x <;> cases hb : B x
    · simpa using iht
    · simp only [Bool.false_eq_true, if_false, if_true, Bool.false_or]
      exact List.perm_middle.trans (iht.cons x)
    · simp only [Bool.false_eq_true, if_false, if_true, Bool.true_or, List.cons_append]
      exact iht.cons x
    · exact absurd ⟨ha, hb⟩ hx
end Go.Proofs.Ytnkkbleebfijgaa

/- Walks: takePlaces of the program. -/
namespace Go.Proofs.Ytnkkbleebfijgaa
open Go.RowKit Pth

/-- Places as numbers. -/
def Ip (l : List Nat) : List Int := l.map (fun (i : Nat) => (i : Int))
theorem Ip_len (l : List Nat) : (Ip l).length = l.length := by simp [Ip]
theorem Ip_snoc (l : List Nat) (i : Nat) : Ip (l ++ [i]) = Ip l ++ [(i : Int)] := by simp [Ip]
theorem Ip_get {l : List Nat} {i : Nat} (h : i < l.length) : (Ip l)[i]'(by rw [Ip_len]; exact h) = (l[i] : Int) := by simp [Ip]

set_option maxRecDepth 20000 in
set_option maxHeartbeats 8000000 in
theorem takePlaces_any (l st mv : List Int) (B gO lo cO cS : Nat) (mvv : Value) (w : World) (hown : w.ownsRow B 3 1 (.slice (some ⟨gO, 0, none⟩) l.length cO) l.length (I l)) (hcS : st.length ≤ cS) (hcS2 : cS ≤ 2 ^ 63 - 1)
    (hst : ∀ j (hj : j < st.length), ∃ h : lo + j < l.length, l[lo + j] = st[j]) (hl : l.length ≤ 1000) (hmv : ∀ W, w.grownBy W (some gO) → RowV W mvv (I mv)) (hml : (locK st (hasL mv) st.length).length = mv.length) :
    Calls Try.prog 97 #[.slice (some ⟨gO, lo, none⟩) st.length cS, mvv] w fun e w' => e = .returned (.tuple #[]) ∧ w'.ownsRow B 3 1 (.slice (some ⟨gO, 0, none⟩) l.length cO) l.length (I (newO l ((locK st (hasL mv) st.length).map (lo + ·)) mv)) ∧ w.grownBy w' (some gO) := by
  obtain ⟨ps, hps⟩ : ∃ ps, ps = locK st (hasL mv) st.length := ⟨_, rfl⟩
  rw [← hps] at hml ⊢
  have HPS := Lib.hid hps
  clear hps
  have HO := Lib.hid hown
  have HST := Lib.hid hst
  have HMV := Lib.hid hmv
  have HML := Lib.hid hml
  obtain ⟨ma, mc, hmq, hm1, hm2, _⟩ := (hmv w (grown_refl _ _)).ints
  subst hmq
  unfold maxLen at hm2
  have hgl := hown.lt gO rfl
  have hsl : st.length ≤ 1000 := by
    rcases Nat.eq_zero_or_pos st.length with h | h
    · omega
    · obtain ⟨h1, _⟩ := hst (st.length - 1) (by omega); omega
  have hsl2 : 0 < st.length → lo + (st.length - 1) < l.length := fun h => (hst (st.length - 1) (by omega)).1
  have HGL := Lib.hid hgl
  have HSC : Hid (∀ W : World, W.ownsRow B 3 1 (.slice (some ⟨gO, 0, none⟩) l.length cO) l.length (I l) → ∀ j (hj : j < st.length), W.cell? ⟨gO, lo + j, none⟩ = some (.int .i64 st[j])) := fun W h j hj => by
    obtain ⟨h1, h2⟩ := HST.out j hj
    rw [h.cellAt (lo + j) (by omega), I_at h1, h2]
  have HSL2 := Lib.hid hsl2
  clear hown hst hmv hml hgl hsl2
  go_enter Try.func97, Try.ntmps97
  go_wp2_with fail
  go_loopw [4, 11] (fun q i wr => ∃ k : Nat, k ≤ st.length ∧ i = .int .i64 k ∧ Hid (Below w.heap.size w wr) ∧ Hid (wr.ownsRow w.heap.size 3 1 q (Ip (locK st (hasL mv) k)).length (I (Ip (locK st (hasL mv) k))))) (fun _ i _ => st.length - (intOf i).toNat)
  case atStart => exact ⟨0, Nat.zero_le _, rfl, Below.refl _ _, none_ownZ _ _ _⟩
  case round =>
    obtain ⟨k, hk, rfl, HB, HN⟩ := hrel
    have hqs := own_slice HN.out
    by_cases hlt : k < st.length
    · have hcell := HSC.out wr (own_below HO.out HB.out) k hlt
      have CH := contains_any mv st[k] _ wr (HMV.out wr (below_grown HB.out))
      have hll := locK_len st (hasL mv) k
      rcases hh : hasL mv st[k] with _ | _
      · have HE := Lib.hid (locK_no hlt hh)
        rw [hh] at CH
        have HC := Lib.hid CH
        obtain ⟨qa, qc, hq⟩ := hqs
        subst hq
        clear CH hh hll
        generalize st[k] = x at *
        go_wp2_with fail
        refine HC.out.mono ?_
        rintro e w1 ⟨rfl, rfl⟩
        go_wp2_with fail
        go_roundw
        case rel => exact ⟨k + 1, by omega, by go_num, HB, by rw [HE.out]; exact HN.out⟩
        case measure => simp [intOf]; omega
      · have HE : Hid (Ip (locK st (hasL mv) (k + 1)) = Ip (locK st (hasL mv) k) ++ [(k : Int)]) := by show _ = _; rw [locK_yes hlt hh, Ip_snoc]
        rw [hh] at CH
        have HC := Lib.hid CH
        have HNA := Lib.hid (own_Z HN.out)
        have hIl : (I (Ip (locK st (hasL mv) k))).length ≤ 1000000 := by rw [I_len, Ip_len]; omega
        clear CH hh hll HN hqs
        generalize Ip (locK st (hasL mv) k) = m at *
        generalize st[k] = x at *
        go_wp2_with fail
        refine HC.out.mono ?_
        rintro e w1 ⟨rfl, rfl⟩
        go_wp2_with (at_builtin; refine wpAppOne elemI rfl _ _ rfl w.heap.size _ (I m) rfl HNA.out _ rfl rfl rfl hIl HB.out.size ?_; intro v7 w7 hown7 hg7; have HN7 := Lib.hid (own_Z2 hown7); have HB7 := Lib.hid (HB.out.trans (below_own HNA.out hg7 HB.out.size)); clear hown7 hg7)
        go_roundw
        case rel => exact ⟨k + 1, by omega, by go_num, HB7, by rw [HE.out]; exact HN7.out⟩
        case measure => simp [intOf]; omega
    · obtain rfl : k = st.length := by omega
      clear hqs
      rw [← HPS.out] at HN
      obtain ⟨qa, qc, hq⟩ := own_slice HN.out
      subst hq
      have hpl : (Ip (ps)).length = mv.length := by rw [Ip_len]; exact HML.out
      have HPR : Hid (∀ i (hi : i < mv.length), (ps)[i]'(by rw [HML.out]; exact hi) < st.length) := fun i hi => (mem_locK.1 (by rw [← HPS.out]; exact List.getElem_mem _)).1
      have HPG : Hid (∀ i (hi : i < mv.length), (Ip (ps))[i]'(by rw [hpl]; exact hi) = (((ps)[i]'(by rw [HML.out]; exact hi) : Nat) : Int)) := fun i hi => Ip_get _
      have HPL := Lib.hid hpl
      have hqcap : mv.length ≤ qc ∧ qc ≤ 2 ^ 63 - 1 := by
        obtain ⟨_, _, h, h', h4, _⟩ := (RowV.of_own HN.out).ints
        unfold maxLen at h4
        injection h with _ _ h3; rw [hpl] at h'; omega
      obtain ⟨hq1, hq2⟩ := hqcap
      rw [hpl]
      have HRQ : Hid (∀ W : World, Below wr.heap.size wr W ∨ wr.grownBy W (some gO) → ∀ i (hi : i < mv.length), ∃ g o, qa = some ⟨g, o, none⟩ ∧ W.cell? ⟨g, o + i, none⟩ = some (.int .i64 (((ps)[i]'(by rw [HML.out]; exact hi) : Nat) : Int))) := by
        intro W hW i hi
        have hne : ∀ kk, (Value.slice (some (⟨gO, 0, none⟩ : Addr)) 0 0).ownBlock = some kk → (Value.slice qa (Ip (ps)).length qc).ownBlock ≠ some kk := fun kk h1 h2 => by
          have e1 : gO = kk := by simpa [Value.ownBlock] using h1
          have := (HN.out.lt kk h2).1
          have := HGL.out.2
          omega
        have hO : W.ownsRow w.heap.size 3 1 (.slice qa (Ip (ps)).length qc) (Ip (ps)).length (I (Ip (ps))) := by
          rcases hW with hW | hW
          · exact own_below HN.out hW
          · exact own_apartI HN.out (u := .slice (some ⟨gO, 0, none⟩) 0 0) hW hne
        obtain ⟨aa, cc, h, _, _, hc⟩ := (RowV.of_own hO).ints
        injection h with h1 _ _
        obtain ⟨g, o, h2, _, h3⟩ := hc i (by rw [HPL.out]; exact hi)
        exact ⟨g, o, by rw [h1, h2], by rw [h3, HPG.out i hi]⟩
      have HO0 := Lib.hid (own_below HO.out HB.out)
      have HG0 : Hid (w.grownBy wr (some gO)) := below_grown HB.out
      clear HN hpl HPG
      go_wp2_with fail
      go_loopw [26] (fun i wz => ∃ k : Nat, k ≤ mv.length ∧ i = .int .i64 k ∧ Hid (wz.ownsRow B 3 1 (.slice (some ⟨gO, 0, none⟩) l.length cO) l.length (I (newO l ((ps.map (lo + ·)).take k) (mv.take k)))) ∧ Hid (wr.grownBy wz (some gO))) (fun i _ => mv.length - (intOf i).toNat)
      case atStart => exact ⟨0, Nat.zero_le _, rfl, HO0, grown_refl _ _⟩
      case round =>
        obtain ⟨i, hi, rfl, HOZ, HGZ⟩ := hrel
        by_cases hlt : i < mv.length
        · obtain ⟨g, o, hqa, hcq⟩ := HRQ.out _ (.inr HGZ.out) i hlt
          subst hqa
          have hps := HPR.out i hlt
          have hpm : i < ps.length := by have := HML.out; omega
          have hlp : lo + ps[i] < l.length := (HST.out ps[i] hps).1
          obtain ⟨aa, cc, hmq, _, _, hcm⟩ := (HMV.out _ (grown_trans HG0.out HGZ.out)).ints
          injection hmq with hma _ _
          obtain ⟨gm, om, hmaa, _, hcc⟩ := hcm i hlt
          rw [hmaa] at hma
          subst hma
          have HE : Hid (newO l ((ps.map (lo + ·)).take (i + 1)) (mv.take (i + 1)) = (newO l ((ps.map (lo + ·)).take i) (mv.take i)).set (lo + ps[i]) mv[i]) := by
            show _ = _
            rw [newO_snoc (by rw [List.length_map]; exact hpm) hlt, List.getElem_map]
          have hnl := newO_len ((ps.map (lo + ·)).take i) (mv.take i) l
          generalize newO l ((ps.map (lo + ·)).take i) (mv.take i) = lo1 at *
          have hcz : wr.cell? ⟨gO, lo + ps[i], none⟩ = some (.int .i64 (lo1.getD (lo + ps[i]) 0)) := by rw [HOZ.out.cellAt (lo + ps[i]) (by omega), I_at (by omega), getD_in (by omega)]
          have hfz := HOZ.out.frozenAt (lo + ps[i])
          have hst := HOZ.out.stored (lo + ps[i]) (.int .i64 mv[i])
          rw [I_set, ← HE.out] at hst
          have HO1 := Lib.hid hst.1
          have HG1 := Lib.hid (grown_trans HGZ.out hst.2)
          have hps2 : (ps[i] : Int) < (st.length : Int) := by omega
          clear hst HE hnl hcm HOZ HGZ hlp hmaa
          generalize ps[i] = pi at *
          generalize mv[i] = mi at *
          generalize lo1.getD (lo + pi) 0 = old at *
          go_wp2_with fail
          go_roundw
          case rel => exact ⟨i + 1, by omega, by go_num, HO1, HG1⟩
          case measure => simp [intOf]; omega
        · obtain rfl : i = mv.length := by omega
          rw [List.take_of_length_le (by rw [List.length_map, HML.out]; exact Nat.le_refl _), List.take_length] at HOZ
          go_wp2_with fail
          go_end0
          exact ⟨rfl, HOZ.out, grown_trans HG0.out HGZ.out⟩
end Go.Proofs.Ytnkkbleebfijgaa

/- Walks: mendOrder of the program. -/
namespace Go.Proofs.Ytnkkbleebfijgaa
open Go.RowKit Pth

/-- A stretch of a row written anew. -/
def setAt (xs : List Value) : Nat → List Value → List Value
  | _, [] => xs
  | o, v :: r => setAt (xs.set o v) (o + 1) r
theorem own_setCells {B e n g c : Nat} : ∀ (vs : List Value) (o : Nat) (xs : List Value) (w : World), w.ownsRow B e 1 (.slice (some ⟨g, 0, none⟩) n c) n xs → (w.setCells g o vs).ownsRow B e 1 (.slice (some ⟨g, 0, none⟩) n c) n (setAt xs o vs) ∧ w.grownBy (w.setCells g o vs) (some g)
  | [], _, _, w, h => ⟨h, grown_refl _ _⟩
  | v :: r, o, xs, w, h => by
    have hs := h.stored o v
    have ih := own_setCells r (o + 1) (xs.set o v) (w.setCell ⟨g, o, none⟩ v) hs.1
    exact ⟨ih.1, grown_trans hs.2 ih.2⟩
theorem setAt_all (z : Value) : ∀ (m o : Nat) (xs : List Value), xs.length = o + m → setAt xs o (List.replicate m z) = xs.take o ++ List.replicate m z := by
  intro m
  induction m with
  | zero => intro o xs h; simp only [List.replicate_zero, setAt, List.append_nil]; rw [List.take_of_length_le (by omega)]
  | succ m ih =>
    intro o xs h
    have ho : o < xs.length := by omega
    show setAt (xs.set o z) (o + 1) (List.replicate m z) = _
    rw [ih (o + 1) (xs.set o z) (by rw [List.length_set]; omega), List.take_succ_eq_append_getElem (by rw [List.length_set]; exact ho)]
    have e : List.take o (xs.set o z) = List.take o xs := by
      apply List.ext_getElem
      · simp
      · intro i h1 h2
        rw [List.getElem_take, List.getElem_take, List.getElem_set_ne (by rw [List.length_take, List.length_set] at h1; omega)]
    rw [e, List.getElem_set_self, List.replicate_succ, List.append_assoc]
    rfl

open Classical in
/-- What the later one leads to. -/
noncomputable def aheadP (ls : List (List Int)) (x : Int) (y : Int) : Bool := decide (Dn ls (· = x) y)
open Classical in
/-- What leads to the earlier one. -/
noncomputable def behindP (ls : List (List Int)) (t : Int) (y : Int) : Bool := decide (Up ls (· = t) y)
theorem aheadP_iff {ls : List (List Int)} {x y : Int} : aheadP ls x y = true ↔ Dn ls (· = x) y := by unfold aheadP; exact @decide_eq_true_iff _ (Classical.propDecidable _)
theorem behindP_iff {ls : List (List Int)} {t y : Int} : behindP ls t y = true ↔ Up ls (· = t) y := by unfold behindP; exact @decide_eq_true_iff _ (Classical.propDecidable _)
noncomputable def bothP (ls : List (List Int)) (t x : Int) (y : Int) : Bool := aheadP ls x y || behindP ls t y
noncomputable def movesL (ls : List (List Int)) (t x : Int) (st : List Int) : List Int := st.filter (aheadP ls x) ++ st.filter (behindP ls t)
noncomputable def placesL (ls : List (List Int)) (t x : Int) (st : List Int) (lo : Nat) : List Nat := (locK st (bothP ls t x) st.length).map (lo + ·)
/-- The order mended. -/
noncomputable def mendO (ls : List (List Int)) (l : List Int) (t x : Int) : List Int :=
  if pos l x < pos l t then l else newO l (placesL ls t x (strL l (pos l t) (pos l x)) (pos l t)) (movesL ls t x (strL l (pos l t) (pos l x)))
theorem apart_two {ls : List (List Int)} {l : List Int} (hg : GoodP ls l) {t x : Int} (ht : t ∈ l) (hx : x ∈ l) (hloop : farI ls t x < 0) {y : Int} (hy : y ∈ l) : ¬ (aheadP ls x y = true ∧ behindP ls t y = true) := by
  rintro ⟨h1, h2⟩
  rw [aheadP_iff, dn_up hg hx hy] at h1
  rw [behindP_iff] at h2
  have := (up_way hg hx).1 (up_trans h1 h2)
  omega
theorem has_moves {ls : List (List Int)} {t x : Int} {st : List Int} : ∀ y ∈ st, hasL (movesL ls t x st) y = bothP ls t x y := by
  intro y hy
  unfold hasL movesL bothP
  rw [Bool.eq_iff_iff, decide_eq_true_iff, List.mem_append, List.mem_filter, List.mem_filter, Bool.or_eq_true]
  simp [hy]
theorem moves_perm {ls : List (List Int)} {l : List Int} (hg : GoodP ls l) {t x : Int} (ht : t ∈ l) (hx : x ∈ l) (hloop : farI ls t x < 0) {st : List Int} (hst : ∀ y ∈ st, y ∈ l) : (movesL ls t x st).Perm ((locK st (bothP ls t x) st.length).map (fun i => st.getD i 0)) := by
  rw [locK_map (Nat.le_refl _), List.take_length]
  exact filter_two st (fun y hy => apart_two hg ht hx hloop (hst y hy))
theorem moves_len {ls : List (List Int)} {l : List Int} (hg : GoodP ls l) {t x : Int} (ht : t ∈ l) (hx : x ∈ l) (hloop : farI ls t x < 0) {st : List Int} (hst : ∀ y ∈ st, y ∈ l) : (locK st (hasL (movesL ls t x st)) st.length).length = (movesL ls t x st).length := by
  rw [locK_congr has_moves (Nat.le_refl _), (moves_perm hg ht hx hloop hst).length_eq, List.length_map]
theorem strL_len {l : List Int} {lo hi : Nat} (h : hi < l.length) (h2 : lo ≤ hi) : (strL l lo hi).length = hi + 1 - lo := by unfold strL; rw [List.length_drop, List.length_take]; omega
theorem strL_get {l : List Int} {lo hi : Nat} (h : hi < l.length) (h2 : lo ≤ hi) : ∀ j (hj : j < (strL l lo hi).length), ∃ hh : lo + j < l.length, l[lo + j] = (strL l lo hi)[j] := by
  intro j hj
  have := strL_len h h2
  refine ⟨by omega, ?_⟩
  simp only [strL, List.getElem_drop, List.getElem_take]

/-- A row of numbers cut at both ends. -/
theorem cut_both {w : World} {B g c lo hi : Nat} {l : List Int} (h : w.ownsRow B 3 1 (.slice (some ⟨g, 0, none⟩) l.length c) l.length (I l)) (hh : hi < l.length) (h2 : lo ≤ hi) : RowV w (.slice (some ⟨g, lo, none⟩) (hi + 1 - lo) (c - lo)) (I (strL l lo hi)) := by
  have hc : l.length ≤ c ∧ c ≤ maxLen := by
    rcases h.2 with ⟨e, _⟩ | ⟨g', cap, cur, e, _, _, h5, h6, _⟩
    · cases e
    · injection e with _ _ e3; subst e3; exact ⟨h5, h6⟩
  refine ⟨_, _, by rw [I_len, strL_len hh h2], by rw [I_len, strL_len hh h2]; omega, by omega, fun k hk => ?_⟩
  rw [I_len] at hk
  obtain ⟨h3, h4⟩ := strL_get hh h2 k hk
  refine ⟨g, lo, rfl, (h.lt g rfl).2, ?_⟩
  rw [h.cellAt (lo + k) (by omega), I_at h3, h4, I_get hk]
theorem run_cutB (g n c lo hi : Nat) (h1 : lo ≤ hi) (h2 : hi < n) (h3 : n ≤ c) (W : World) :
    (Instr.slice 23 (.slice (some ⟨g, 0, none⟩) n c) (some (.int .i64 (lo : Int))) (some (.int .i64 ((hi : Int) + 1))) none).run Try.prog W = .ok (.slice (some ⟨g, lo, none⟩) (hi + 1 - lo) (c - lo)) W := by
  have e1 : (lo : Int) ≤ (hi : Int) + 1 := by omega
  have e2 : (hi : Int) + 1 ≤ (c : Int) := by omega
  have e3 : c ≠ lo := by omega
  have e4 : ((hi : Int) + 1).toNat = hi + 1 := by omega
  go_simp
end Go.Proofs.Ytnkkbleebfijgaa

/- Walks: mendOrder of the program. -/
namespace Go.Proofs.Ytnkkbleebfijgaa
open Go.RowKit Pth

theorem filter_needs {ls : List (List Int)} {l : List Int} (hg : GoodP ls l) {x : Nat} (hx : x < ls.length) {lo hi : Nat} (hhi : pos l (x : Int) = hi) (hlo : lo ≤ hi) :
    (strL l lo hi).filter (markB (markNd ls ((List.replicate ls.length false).set x true) (strL l lo hi))) = (strL l lo hi).filter (aheadP ls x) :=
  List.filter_congr (fun y hy => by rw [Bool.eq_iff_iff, needs_stretch hg hx hhi hlo y hy, aheadP_iff])
theorem filter_users {ls : List (List Int)} {l : List Int} (hg : GoodP ls l) {t : Nat} (ht : t < ls.length) {lo hi : Nat} (hlo : pos l (t : Int) = lo) (hhi : hi < l.length) :
    (strL l lo hi).filter (markB (markUs ls ((List.replicate ls.length false).set t true) (strL l lo hi))) = (strL l lo hi).filter (behindP ls t) :=
  List.filter_congr (fun y hy => by rw [Bool.eq_iff_iff, users_stretch hg ht hlo hhi y hy, behindP_iff])

set_option maxRecDepth 20000 in
set_option maxHeartbeats 8000000 in
theorem mendOrder_any (ls : List (List Int)) (l : List Int) (t x : Nat) (B gO cO : Nat) (nv : Value) (w : World) (hst : GraphV w (.agg #[nv, .slice (some ⟨gO, 0, none⟩) l.length cO]) ls l) (hown : w.ownsRow B 3 1 (.slice (some ⟨gO, 0, none⟩) l.length cO) l.length (I l)) (hG : GoodG ls l) (ht : t < ls.length) (hx : x < ls.length) (hloop : farI ls t x < 0) :
    Calls Try.prog 57 #[.agg #[nv, .slice (some ⟨gO, 0, none⟩) l.length cO], .int .i64 (t : Int), .int .i64 (x : Int)] w fun e w' => e = .returned (.tuple #[]) ∧ w'.ownsRow B 3 1 (.slice (some ⟨gO, 0, none⟩) l.length cO) l.length (I (mendO ls l t x)) ∧ w.grownBy w' (some gO) := by
  have HV := Lib.hid hst
  have HO := Lib.hid hown
  have HGG := Lib.hid hG
  have hgp := hG.toP
  have htl : (t : Int) ∈ l := hgp.all.2 ⟨by omega, by omega⟩
  have hxl : (x : Int) ∈ l := hgp.all.2 ⟨by omega, by omega⟩
  obtain ⟨an, cn, rfl, hn1, hn2, _⟩ := hst.parts.1.lists
  obtain ⟨hc1, hc2⟩ : l.length ≤ cO ∧ cO ≤ 2 ^ 63 - 1 := by
    rcases hown.2 with ⟨e, _⟩ | ⟨g', cap, cur, e, _, _, h5, h6, _⟩
    · cases e
    · injection e with _ _ e3; unfold maxLen at h6; omega
  obtain ⟨lo, hlo⟩ : ∃ lo, lo = pos l (t : Int) := ⟨_, rfl⟩
  obtain ⟨hi, hhi⟩ : ∃ hi, hi = pos l (x : Int) := ⟨_, rfl⟩
  have hlol : lo < l.length := by rw [hlo]; exact pos_lt htl
  have hhil : hi < l.length := by rw [hhi]; exact pos_lt hxl
  have h10 : ls.length ≤ 10 := hG.high
  have hl10 : l.length = ls.length := hG.same
  unfold maxLen at hn2
  obtain ⟨R, hR⟩ : ∃ R, R = mendO ls l t x := ⟨_, rfl⟩
  rw [← hR]
  have HNo : Hid (hi < lo → R = l) := fun h => by rw [hR, mendO, if_pos (by omega)]
  obtain ⟨st, hst'⟩ : ∃ st, st = strL l lo hi := ⟨_, rfl⟩
  obtain ⟨mv, hmv⟩ : ∃ mv, mv = movesL ls t x st := ⟨_, rfl⟩
  have HYes : Hid (lo ≤ hi → R = newO l ((locK st (hasL mv) st.length).map (lo + ·)) mv) := fun h => by
    rw [hR, mendO, if_neg (by omega), ← hlo, ← hhi, ← hst', hmv, locK_congr has_moves (Nat.le_refl _)]
    rfl
  have HLN : Hid ((locK st (hasL mv) st.length).length = mv.length) := by
    show _ = _
    rw [hmv]
    exact moves_len hgp htl hxl hloop (fun y hy => by rw [hst'] at hy; exact ((mem_strL hgp.nodup).1 hy).1)
  have HMV : Hid (lo ≤ hi → mv = st.filter (markB (markNd ls ((List.replicate ls.length false).set x true) st)) ++ st.filter (markB (markUs ls ((List.replicate ls.length false).set t true) st))) := fun h => by
    rw [hmv, hst', filter_needs hgp hx hhi.symm h, filter_users hgp ht hlo.symm hhil]
    rfl
  have HSI : Hid (∀ y ∈ st, 0 ≤ y ∧ y < (ls.length : Int)) := fun y hy => hgp.range y (by rw [hst'] at hy; exact ((mem_strL hgp.nodup).1 hy).1)
  have HSG : Hid (lo ≤ hi → ∀ j (hj : j < st.length), ∃ h : lo + j < l.length, l[lo + j] = st[j]) := fun h j hj => by
    subst hst'
    exact strL_get hhil h j hj
  have HSN : Hid (lo ≤ hi → st.length = hi + 1 - lo) := fun h => by rw [hst']; exact strL_len hhil h
  have HSR : Hid (lo ≤ hi → ∀ W : World, W.ownsRow B 3 1 (.slice (some ⟨gO, 0, none⟩) l.length cO) l.length (I l) → RowV W (.slice (some ⟨gO, lo, none⟩) st.length (cO - lo)) (I st)) := fun h W hW => by
    rw [HSN.out h, hst']
    exact cut_both hW hhil h
  have HP1 : Hid (placeI l (t : Int) = (lo : Int)) := by show _ = _; rw [place_mem htl, hlo]
  have HP2 : Hid (placeI l (x : Int) = (hi : Int)) := by show _ = _; rw [place_mem hxl, hhi]
  obtain ⟨wa, hwa⟩ : ∃ wa, wa = w.alloc (.cells #[.slice an ls.length cn, .slice (some ⟨gO, 0, none⟩) l.length cO] 27) := ⟨_, rfl⟩
  have P0 : Hid (Blk2 wa w.heap.size 27 (.slice an ls.length cn) (.slice (some ⟨gO, 0, none⟩) l.length cO)) := by rw [hwa]; exact Blk2.new
  have HA : Hid (Below w.heap.size w wa) := by rw [hwa]; exact (Below.refl w.heap.size w).alloc (Nat.le_refl _) _
  have hsz : w.heap.size < wa.heap.size := by rw [hwa]; simp
  have HWA := Lib.hid hwa
  have HIX := Lib.hid (fun n (y : Int) => (index_any l y _ (wa.drewN n) (RowV.of_own (own_below HO.out (below_drewN HA.out n)))).mono fun e w' (h : e = .returned (.int .i64 (placeI l y)) ∧ wa.drewN n = w') => (⟨h.1, h.2.symm⟩ : e = .returned (.int .i64 (placeI l y)) ∧ w' = wa.drewN n))
  have hp1 : placeI l (t : Int) = (lo : Int) := HP1.out
  have hp2 : placeI l (x : Int) = (hi : Int) := HP2.out
  obtain ⟨c0, c1⟩ := P0.out.cells
  have HB1 : Hid (∀ n, Below w.heap.size w (wa.drewN n)) := fun n => below_drewN HA.out n
  have HPD : Hid (∀ n, Blk2 (wa.drewN n) w.heap.size 27 (.slice an ls.length cn) (.slice (some ⟨gO, 0, none⟩) l.length cO)) := fun n => P0.out
  have HSD : Hid (∀ n, w.heap.size < (wa.drewN n).heap.size) := fun n => hsz
  obtain ⟨csB, hcB, mB⟩ := make_alloc elemB rfl ls.length (by omega)
  rw [← hl10] at hcB mB
  have HCB := Lib.hid hcB
  have HLL := Lib.hid hl10
  have HHI := Lib.hid hhil
  clear hwa hst hown hG hgp htl hxl hloop hlo hhi hmv hst' hR HP1 HP2 hcB hl10
  by_cases hlt : hi < lo
  · have HRL := Lib.hid (HNo.out hlt)
    have hlt2 : decide ((hi : Int) < (lo : Int)) = true := by simp; omega
    go_enter Try.func57, Try.ntmps57
    go_wp2_with fail
    rw [← HWA.out]
    go_quiet (first | (go_at_call 91; refine Calls.quiet_of_same (HIX.out _ _)))
    go_wp2_with fail
    refine bodyPost_ret (results_none rfl _ _ _) rfl ?_
    exact ⟨rfl, by rw [HRL.out]; exact own_below HO.out (HB1.out _), below_grown (HB1.out _)⟩
  · have hle : lo ≤ hi := by omega
    have hlt2 : decide ((hi : Int) < (lo : Int)) = false := by simp; omega
    have hsn := HSN.out hle
    have hrc : ∀ W, (Instr.slice 23 (.slice (some ⟨gO, 0, none⟩) l.length cO) (some (.int .i64 (lo : Int))) (some (.int .i64 ((hi : Int) + 1))) none).run Try.prog W = .ok (.slice (some ⟨gO, lo, none⟩) st.length (cO - lo)) W := fun W => by
      rw [hsn]; exact run_cutB gO l.length cO lo hi hle HHI.out hc1 W
    go_enter Try.func57, Try.ntmps57
    go_wp2_with fail
    rw [← HWA.out]
    go_quiet (first | (go_at_call 91; refine Calls.quiet_of_same (HIX.out _ _)))
    rw [hp1, hp2]
    have HBd := Lib.hid (HB1.out nq)
    have HPd := Lib.hid (HPD.out nq)
    have hszd := HSD.out nq
    obtain ⟨Wd, hWd⟩ : ∃ Wd, Wd = wa.drewN nq := ⟨_, rfl⟩
    rw [← hWd] at HBd HPd hszd ⊢
    clear hWd HB1 HPD HSD HIX hp1 hp2 c0 c1
    obtain ⟨d0, d1⟩ := HPd.out.cells
    -- the marks
    have hH := (own_of_heap (w := Wd.alloc (.cells csB 4)) (B := Wd.heap.size) (heap_alloc_new Wd _) (Nat.le_refl _) HCB.out (by simp) (show l.length ≤ maxLen by unfold maxLen; omega))
    obtain ⟨w2, hw2⟩ : ∃ w2, w2 = Wd.alloc (.cells csB 4) := ⟨_, rfl⟩
    have hb2 : Below Wd.heap.size Wd w2 := by rw [hw2]; exact (Below.refl _ Wd).alloc (Nat.le_refl _) _
    rw [← hw2, ← Bo_rep] at hH
    have hP2 := HPd.out.below hb2 hszd
    obtain ⟨f0, f1⟩ := hP2.cells
    have HP2 := Lib.hid hP2
    have HB2 := Lib.hid (bth HBd.out hb2 (Nat.le_refl _))
    have hgm : w.heap.size < Wd.heap.size := hszd
    have HW2 := Lib.hid hw2
    have hnl : (List.replicate l.length false).length = l.length := by simp
    have HST : Hid (RowV w (.slice (some ⟨gO, lo, none⟩) st.length (cO - lo)) (I st)) := HSR.out hle w HO.out
    have hne0 : 0 < st.length := by omega
    have hst10 : st.length ≤ 10 := by have := HHI.out; have := HLL.out; omega
    have hcs : st.length ≤ cO - lo := by have := HHI.out; omega
    have hlpos : 0 < l.length := by have := HHI.out; omega
    clear hsn
    have hown2 := own_base hH (Nat.le_of_lt hgm)
    rw [← hnl] at hown2
    have HMN := Lib.hid (markNeedsG_any ls l st x (List.replicate l.length false) _ _ Wd.heap.size l.length w w2 HV.out HST.out HB2.out (by rw [hnl] at hown2 ⊢; exact hown2) (by rw [hnl]; exact HLL.out) h10 (by omega) hne0 hx HSI.out (good_in HGG.out))
    rw [hnl] at HMN
    have HNL := Lib.hid hnl
    clear hnl hH hown2 hb2 hw2 hP2
    go_wp2_with fail
    rw [← HW2.out]
    refine HMN.out.mono ?_
    rintro e w3 ⟨rfl, hb3, ho3, hg3⟩
    have HB3 := Lib.hid hb3
    have HP3 := Lib.hid (HP2.out.beside hg3 (by intro e; have := Option.some.inj e; omega))
    have HO3 := Lib.hid ho3
    have HS3 := Lib.hid (HST.out.below hb3)
    clear hb3 ho3 hg3 d0 d1 f0 f1 mB hrc HMN hlt2
    obtain ⟨bs1, hbs1⟩ : ∃ bs1, bs1 = markNd ls ((List.replicate l.length false).set x true) st := ⟨_, rfl⟩
    have HBL1 : Hid (bs1.length = l.length) := by show _ = _; rw [hbs1, markNd_len, List.length_set, List.length_replicate]
    rw [← hbs1] at HO3
    have HBS1 := Lib.hid hbs1
    have hM1 := markedOf_any st bs1 _ _ w3 HS3.out (RowV.of_own HO3.out) (fun y hy => by rw [HBL1.out, HLL.out]; exact HSI.out y hy) (by omega)
    have HM1 := Lib.hid hM1
    clear hM1 hbs1
    go_wp2_with fail
    refine HM1.out.mono ?_
    rintro e w4 ⟨v4, rfl, ho4, hb4⟩
    have HV4 := Lib.hid ho4
    have HB4 := Lib.hid (bth HB3.out hb4 (Nat.le_refl _))
    have hs34 := hb4.size
    have HO4 := Lib.hid (own_below HO3.out hb4)
    have HP4 := Lib.hid (HP3.out.below hb4 (lt_of_block HP3.out))
    clear ho4 hb4 HM1
    -- cleared
    have hcl := fun ty => Lib.run_clear_slice (P := Try.prog) w4 36 4 ty (.bool false) Try.underlying36 Try.zeroValue4 rfl rfl Wd.heap.size 0 l.length l.length (by omega)
      (fun j hj => by rw [Nat.zero_add, HO4.out.cellAt j (by omega), Bo_get? (by have := HBL1.out; omega)]; rfl) (fun j hj => HO4.out.frozenAt (0 + j))
    have hset := own_setCells (List.replicate l.length (.bool false)) 0 (Bo bs1) w4 HO4.out
    obtain ⟨w5, hw5⟩ : ∃ w5, w5 = w4.setCells Wd.heap.size 0 (List.replicate l.length (.bool false)) := ⟨_, rfl⟩
    rw [← hw5, setAt_all _ _ _ _ (by rw [Bo_len, HBL1.out]; omega), List.take_zero, List.nil_append, ← Bo_rep] at hset
    have hcl2 : ∀ ty, (Builtin.clear_ #[36] ty #[.slice (some ⟨Wd.heap.size, 0, none⟩) l.length l.length]).run Try.prog w4 = .ok (.tuple #[]) w5 := fun ty => by rw [hw5]; exact hcl ty
    have hv4ne : ∀ k, (Value.slice (some (⟨Wd.heap.size, 0, none⟩ : Addr)) l.length l.length).ownBlock = some k → v4.ownBlock ≠ some k := own_typesI HO4.out HV4.out (by decide)
    have HV5 := Lib.hid (own_apartI HV4.out (u := .slice (some ⟨Wd.heap.size, 0, none⟩) l.length l.length) hset.2 hv4ne)
    have HO5 := Lib.hid hset.1
    have HB5 := Lib.hid (HB4.out.trans (only_below hset.2 (Nat.le_of_lt hgm) HB4.out.size))
    have HP5 := Lib.hid (HP4.out.beside hset.2 (by intro e; have := Option.some.inj e; omega))
    have hs45 := hset.2.size
    obtain ⟨f0, f1⟩ := HP5.out.cells
    have hMU := markUsersG_any ls l st t (List.replicate l.length false) _ _ Wd.heap.size l.length w w5 HV.out HST.out HB5.out (by rw [HNL.out]; exact HO5.out) (by rw [HNL.out]; exact HLL.out) h10 ht HSI.out (good_in HGG.out)
    rw [HNL.out] at hMU
    have HMU := Lib.hid hMU
    clear hcl hset hw5 hMU
    go_wp2_with fail
    refine HMU.out.mono ?_
    rintro e w6 ⟨rfl, hb6, ho6, hg6⟩
    have HB6 := Lib.hid hb6
    have HO6 := Lib.hid ho6
    have HS6 := Lib.hid (HST.out.below hb6)
    have hv5ne : ∀ k, (Value.slice (some (⟨Wd.heap.size, 0, none⟩ : Addr)) l.length l.length).ownBlock = some k → v4.ownBlock ≠ some k := own_typesI HO5.out HV5.out (by decide)
    have HV6 := Lib.hid (own_apartI HV5.out (u := .slice (some ⟨Wd.heap.size, 0, none⟩) l.length l.length) hg6 hv5ne)
    have hs56 := hg6.size
    clear hb6 ho6 hg6 f0 f1 hcl2 HMU
    obtain ⟨bs2, hbs2⟩ : ∃ bs2, bs2 = markUs ls ((List.replicate l.length false).set t true) st := ⟨_, rfl⟩
    have HBL2 : Hid (bs2.length = l.length) := by show _ = _; rw [hbs2, markUs_len, List.length_set, List.length_replicate]
    rw [← hbs2] at HO6
    have hM2 := markedOf_any st bs2 _ _ w6 HS6.out (RowV.of_own HO6.out) (fun y hy => by rw [HBL2.out, HLL.out]; exact HSI.out y hy) (by omega)
    have HM2 := Lib.hid hM2
    have HME : Hid (mv = st.filter (markB bs1) ++ st.filter (markB bs2)) := by
      show _ = _
      rw [HMV.out hle, HBS1.out, hbs2, HLL.out]
    clear hM2 hbs2
    have hf1 : (st.filter (markB bs1)).length ≤ 10 := by have := List.length_filter_le (markB bs1) st; omega
    have hf2 : (st.filter (markB bs2)).length ≤ 10 := by have := List.length_filter_le (markB bs2) st; omega
    generalize st.filter (markB bs1) = m1 at *
    generalize st.filter (markB bs2) = m2 at *
    go_wp2_with fail
    refine HM2.out.mono ?_
    rintro e w7 ⟨v7, rfl, ho7, hb7⟩
    have HB7 := Lib.hid (bth HB6.out hb7 (Nat.le_refl _))
    have HV7 := Lib.hid (own_Z (own_base (own_below HV6.out hb7) (Nat.le_refl _)))
    have HR7 := Lib.hid (RowV.of_own ho7)
    have hs67 := hb7.size
    obtain ⟨a7, c7, hq7⟩ := own_slice ho7
    subst hq7
    clear ho7 hb7 HM2
    have hIl : (I m1).length + (I m2).length ≤ 1000000 := by rw [I_len, I_len]; omega
    have hB37 : w3.heap.size ≤ w7.heap.size := by omega
    have hw3 := HB3.out.size
    go_wp2_with (at_builtin; refine wpAppRow elemI rfl _ _ rfl w3.heap.size _ (I m1) (I m2) _ rfl HV7.out rfl HR7.out (I_one _) hIl hB37 ?_; intro v8 w8 hown8 hg8; have HN8 := Lib.hid (put_third hown8 HME.out); have HB8 := Lib.hid (HB7.out.trans ((below_own HV7.out hg8 hB37).mono hw3)); clear hown8 hg8)
    have hO8 := own_below HO.out HB8.out
    have hgl := HO.out.lt gO rfl
    have hTP := takePlaces_any l st mv B gO lo cO (cO - lo) v8 w8 hO8 hcs (by omega) (HSG.out hle) (by have := HHI.out; have := HLL.out; omega) (fun W hW => RowV.of_own (own_apartI HN8.out (u := .slice (some ⟨gO, 0, none⟩) 0 0) hW (fun k h1 h2 => by
      have e1 : gO = k := by simpa [Value.ownBlock] using h1
      have := (HN8.out.lt k h2).1
      have := HB3.out.size
      omega))) HLN.out
    rw [← HYes.out hle] at hTP
    have HTP := Lib.hid hTP
    have HG8 : Hid (w.grownBy w8 (some gO)) := below_grown HB8.out
    clear hTP hO8 hgl
    go_wp2_with fail
    refine HTP.out.mono ?_
    rintro e w9 ⟨rfl, ho9, hg9⟩
    have HO9 := Lib.hid ho9
    have HG9 := Lib.hid (grown_trans HG8.out hg9)
    clear ho9 hg9
    go_wp2_with fail
    go_end0
    exact ⟨rfl, HO9.out, HG9.out⟩
end Go.Proofs.Ytnkkbleebfijgaa

/- Walks: the laws' marks in graphs, and whether they are held. -/
namespace Go.Proofs.Ytnkkbleebfijgaa
open Go.RowKit Pth

/-- The marks from k on, in lists. -/
def marksL : Nat → List (List Int) → List (List Int)
  | _, [] => []
  | k, l :: t => marks k l.length :: marksL (k + l.length) t
theorem marksL_len (k : Nat) (ls : List (List Int)) : (marksL k ls).length = ls.length := by
  induction ls generalizing k with
  | nil => rfl
  | cons l t ih => rw [marksL, List.length_cons, List.length_cons, ih]
theorem marksL_snoc (k : Nat) (ls : List (List Int)) (l : List Int) : marksL k (ls ++ [l]) = marksL k ls ++ [marks ((k + total ls : Nat) : Int) l.length] := by
  induction ls generalizing k with
  | nil => simp [marksL, total]
  | cons x t ih =>
    rw [List.cons_append, marksL, marksL, ih, List.cons_append]
    have : k + x.length + total t = k + total (x :: t) := by simp [total]; omega
    rw [this]
theorem marksL_next {k : Nat} {ls : List (List Int)} {j : Nat} (hj : j < ls.length) : marksL k (ls.take (j + 1)) = marksL k (ls.take j) ++ [marks ((k + total (ls.take j) : Nat) : Int) ls[j].length] := by
  rw [List.take_succ_eq_append_getElem hj, marksL_snoc]
theorem marksL_total (k : Nat) (ls : List (List Int)) : total (marksL k ls) = total ls := by
  induction ls generalizing k with
  | nil => rfl
  | cons x t ih => have := ih (k + x.length); simp only [total, marksL, List.map_cons, List.sum_cons, marks_len] at this ⊢; omega
theorem marksL_at {k : Nat} {ls : List (List Int)} {j : Nat} (hj : j < ls.length) : (marksL k ls)[j]'(by rw [marksL_len]; exact hj) = marks ((k + total (ls.take j) : Nat) : Int) ls[j].length := by
  induction ls generalizing k j with
  | nil => simp at hj
  | cons x t ih =>
    cases j with
    | zero => simp [marksL, total]
    | succ j =>
      simp only [marksL, List.getElem_cons_succ]
      rw [ih (by simpa using hj)]
      have : k + x.length + total (t.take j) = k + total ((x :: t).take (j + 1)) := by simp [total]; omega
      rw [this]

theorem zip_split {sl : List Value} {M ls : List (List Int)} {j : Nat} (hs : sl.length = ls.length) (hM : M.length = j) (hj : j < ls.length) :
    sl.zip (M ++ ls.drop j) = (sl.take j).zip M ++ (sl[j]'(by omega), ls[j]) :: (sl.drop (j + 1)).zip (ls.drop (j + 1)) := by
  have e : sl = sl.take j ++ sl[j]'(by omega) :: sl.drop (j + 1) := by rw [← List.drop_eq_getElem_cons (by omega), List.take_append_drop]
  conv => lhs; rw [e, List.drop_eq_getElem_cons hj]
  rw [List.zip_append (by rw [List.length_take]; omega), List.zip_cons_cons]
theorem zip_join {sl : List Value} {M ls : List (List Int)} {j : Nat} {x : List Int} (hs : sl.length = ls.length) (hM : M.length = j) (hj : j < ls.length) :
    (sl.take j).zip M ++ (sl[j]'(by omega), x) :: (sl.drop (j + 1)).zip (ls.drop (j + 1)) = sl.zip ((M ++ [x]) ++ ls.drop (j + 1)) := by
  have e : sl = sl.take j ++ sl[j]'(by omega) :: sl.drop (j + 1) := by rw [← List.drop_eq_getElem_cons (by omega), List.take_append_drop]
  conv => rhs; rw [e]
  rw [List.append_assoc, List.zip_append (by rw [List.length_take]; omega), List.singleton_append, List.zip_cons_cons]
/-- A list of another type stays. -/
theorem own_grownL {w w' : World} {B B' e n : Nat} {v : Value} {xs : List Value} {L : List (Value × List Int)} (h : w.ownsRow B e 1 v n xs) (he : e ≠ 3) (hl : Lists B' w L) (hg : GrownL w w' L) : w'.ownsRow B e 1 v n xs := by
  refine ⟨h.1, ?_⟩
  rcases h.2 with h0 | ⟨g, cap, cur, hv, hB, hh, r⟩
  · exact .inl h0
  · refine .inr ⟨g, cap, cur, hv, hB, (hg.block g (lt_of_block hh) (fun p hp hi => own_typesI h (hl.1 p hp) he g (by rw [hv]; rfl) hi)).trans hh, r⟩

theorem markIntS_l {l : List Int} {k B : Nat} {i r : Int} {v : Value} {w : World} (hi : (k : Int) = i) (hr : r = (k : Int) + (l.length : Int)) (hown : w.ownsRow B 3 1 v l.length (I l)) (hl : l.length ≤ 2000000) (hk : k ≤ 2000000) :
    Calls Try.prog 16 #[v, .int .i64 i] w fun e w' => e = .returned (.int .i64 r) ∧ w'.ownsRow B 3 1 v l.length (I (marks (k : Int) l.length)) ∧ w.grownBy w' v.ownBlock := by
  subst hi hr
  exact markIntS_any l k B v w hown hl hk
theorem heldIntS_l {k n : Nat} {i r : Int} {v : Value} {w : World} (hi : (k : Int) = i) (hr : r = (k : Int) + (n : Int)) (hrow : RowV w v (I (marks (k : Int) n))) (hn : n ≤ 2000000) (hk : k ≤ 2000000) :
    Calls Try.prog 18 #[v, .int .i64 i] w fun e w' => e = .returned (.int .i64 r) ∧ Below w.heap.size w w' := by
  subst hi hr
  exact heldIntS_any k n v w hrow hn hk

/-- The lists hold the marks, and nothing but their blocks has turned. -/
def MarkedN (B : Nat) (sl : List Value) (ls : List (List Int)) (R : List (Value × List Int)) (k : Nat) (w : World) (e : Ending) (w' : World) : Prop :=
  e = .returned (.int .i64 ((k + total ls : Nat) : Int)) ∧ Lists B w' (sl.zip (marksL k ls) ++ R) ∧ GrownL w w' (sl.zip ls)

set_option maxHeartbeats 2000000 in
theorem markIntSS_any (ls : List (List Int)) (R : List (Value × List Int)) (k B B' : Nat) (v : Value) (sl : List Value) (w : World) (hs : sl.length = ls.length) (hout : w.ownsRow B' 23 1 v ls.length sl) (hL : Lists B w (sl.zip ls ++ R)) (hl : ls.length + total ls ≤ 1500000) (hk : k ≤ 100000) :
    Calls Try.prog 61 #[v, .int .i64 (k : Int)] w (MarkedN B sl ls R k w) := by
  have HW := Lib.hid hL
  have HU := Lib.hid hout
  obtain ⟨a, cap, rfl⟩ := own_slice hout
  have hcap : ls.length ≤ cap ∧ cap ≤ maxLen := by obtain ⟨a', c', he, h1, h2, _⟩ := RowV.of_own hout; injection he with _ _ he; omega
  obtain ⟨hc1, hc2⟩ := hcap
  unfold maxLen at hc2
  clear hL hout
  go_enter Try.func61, Try.ntmps61
  go_wp2_with fail
  go_loopw [1, 5] (fun q i wr => ∃ j : Nat, j ≤ ls.length ∧ q = .int .i64 ((k + total (ls.take j) : Nat) : Int) ∧ i = .int .i64 j ∧ Lists B wr (sl.zip (marksL k (ls.take j) ++ ls.drop j) ++ R) ∧ GrownL w wr (sl.zip ls)) (fun _ i _ => ls.length - (intOf i).toNat)
  case atStart => exact ⟨0, Nat.zero_le _, by simp [total], rfl, by simpa [marksL] using HW.out, GrownL.refl _ _⟩
  case round =>
    obtain ⟨j, hj, rfl, rfl, hL, hg⟩ := hrel
    by_cases hlt : j < ls.length
    · have hout := own_grownL HU.out (by decide) HW.out.left hg
      have hsj : j < sl.length := by omega
      obtain ⟨a', c', he', _, _, hat⟩ := RowV.of_own hout
      injection he' with he1 he2 he3
      subst he1 he3
      obtain ⟨g, o, rfl, hgz, hcell⟩ := hat j hsj
      have hM : (marksL k (ls.take j)).length = j := by rw [marksL_len, List.length_take]; omega
      rw [zip_split hs hM hlt, List.append_assoc, List.cons_append] at hL
      have hone := hL.1 (sl[j], ls[j]) (by simp)
      have htl := total_at hlt
      have htk := total_le (ls := ls) (k := j)
      have HC := Lib.hid (markIntS_l (l := ls[j]) (k := k + total (ls.take j)) (i := ((k + total (ls.take j) : Nat) : Int)) (r := ((k + total (ls.take (j + 1)) : Nat) : Int)) rfl (by have := total_next hlt; omega) hone (by omega) (by omega))
      have HT : Hid (∀ w1, w1.ownsRow B 3 1 sl[j] ls[j].length (I (marks ((k + total (ls.take j) : Nat) : Int) ls[j].length)) → wr.grownBy w1 (sl[j]).ownBlock → Lists B w1 (sl.zip (marksL k (ls.take (j + 1)) ++ ls.drop (j + 1)) ++ R) ∧ GrownL w w1 (sl.zip ls)) := by
        intro w1 h1 h2
        refine ⟨?_, hg.one h2 (zip_get hsj hlt)⟩
        have := hL.turn (v' := sl[j]) (l' := marks ((k + total (ls.take j) : Nat) : Int) ls[j].length) h2 (by rw [marks_len]; exact h1) (fun b hb => .inl hb)
        rw [← List.cons_append, ← List.append_assoc, zip_join hs hM hlt, ← marksL_next hlt] at this
        exact this
      obtain ⟨a2, c2, hv2⟩ := own_slice hone
      have h63 : (k + total (ls.take (j + 1)) : Nat) ≤ 3000000 := by have := total_le (ls := ls) (k := j + 1); omega
      clear hL hone hat hg hout he2
      simp only at hv2
      generalize hsl : sl[j] = u at hcell HC HT hv2
      subst hv2
      generalize ls[j].length = n1 at *
      generalize k + total (ls.take j) = q0 at *
      generalize hq1 : k + total (ls.take (j + 1)) = q1 at *
      have HQ := Lib.hid hq1
      clear hsl hq1
      go_wp2_with fail
      refine HC.out.mono ?_
      rintro e w1 ⟨rfl, h1, h2⟩
      obtain ⟨h3, h4⟩ := HT.out w1 h1 h2
      have H3 := Lib.hid h3
      have H4 := Lib.hid h4
      clear h1 h2 h3 h4 HT HC
      go_wp2_with fail
      go_roundw
      case rel => exact ⟨j + 1, by omega, by rw [HQ.out], by go_num, H3.out, H4.out⟩
      case measure => simp [intOf]; omega
    · obtain rfl : j = ls.length := by omega
      rw [List.take_length, List.drop_length, List.append_nil] at hL
      rw [List.take_length]
      have HL := Lib.hid hL
      have HG := Lib.hid hg
      clear hL hg
      go_wp2_with fail
      go_ret
      exact ⟨rfl, HL.out, HG.out⟩

set_option maxHeartbeats 2000000 in
theorem heldIntSS_any (ls : List (List Int)) (k : Nat) (v : Value) (w : World) (hrow : RowN w v (marksL k ls)) (hl : ls.length + total ls ≤ 1500000) (hk : k ≤ 100000) :
    Calls Try.prog 62 #[v, .int .i64 (k : Int)] w fun e w' => e = .returned (.int .i64 ((k + total ls : Nat) : Int)) ∧ Below w.heap.size w w' := by
  obtain ⟨a, cap, hv, hc1, hc2, hat⟩ := hrow.lists
  have hml := marksL_len k ls
  rw [hml] at hv hc1
  subst hv
  clear hrow
  unfold maxLen at hc2
  go_enter Try.func62, Try.ntmps62
  go_wp2_with fail
  go_loopw [1, 5] (fun q i wr => ∃ j : Nat, j ≤ ls.length ∧ q = .int .i64 ((k + total (ls.take j) : Nat) : Int) ∧ i = .int .i64 j ∧ Below w.heap.size w wr) (fun _ i _ => ls.length - (intOf i).toNat)
  case atStart => exact ⟨0, Nat.zero_le _, by simp [total], rfl, Below.refl _ _⟩
  case round =>
    obtain ⟨j, hj, rfl, rfl, hb⟩ := hrel
    by_cases hlt : j < ls.length
    · obtain ⟨g, o, a2, c2, rfl, hg, hcell0, hrk⟩ := hat j (by omega)
      rw [marksL_at hlt] at hcell0 hrk
      have hcell : wr.cell? ⟨g, o + j, none⟩ = some (.slice a2 (marks ((k + total (ls.take j) : Nat) : Int) ls[j].length).length c2) := by rw [hb.cell (p := ⟨g, o + j, none⟩) hg]; exact hcell0
      have htl := total_at hlt
      have htk := total_le (ls := ls) (k := j)
      have htj := total_le (ls := ls) (k := j + 1)
      have HC := Lib.hid (heldIntS_l (k := k + total (ls.take j)) (n := ls[j].length) (i := ((k + total (ls.take j) : Nat) : Int)) (r := ((k + total (ls.take (j + 1)) : Nat) : Int)) rfl (by have := total_next hlt; omega) (hrk.below hb) (by omega) (by omega))
      have h63 : (k + total (ls.take (j + 1)) : Nat) ≤ 3000000 := by omega
      have HB := Lib.hid hb
      rw [marks_len] at hcell HC
      have h0 : decide (((k + total (ls.take (j + 1)) : Nat) : Int) < 0) = false := decide_eq_false (by omega)
      clear hat hrk hb hcell0
      generalize ls[j].length = n1 at *
      generalize k + total (ls.take j) = q0 at *
      generalize hq1 : k + total (ls.take (j + 1)) = q1 at *
      have HQ := Lib.hid hq1
      clear hq1
      go_wp2_with fail
      refine HC.out.mono ?_
      rintro e w1 ⟨rfl, hb1⟩
      have HB1 := Lib.hid (bth HB.out hb1 (Nat.le_refl _))
      clear hb1 HC
      go_wp2_with fail
      go_roundw
      case rel => exact ⟨j + 1, by omega, by rw [HQ.out], by go_num, HB1.out⟩
      case measure => simp [intOf]; omega
    · obtain rfl : j = ls.length := by omega
      rw [List.take_length]
      have HB := Lib.hid hb
      clear hat hb
      go_wp2_with fail
      go_ret
      exact ⟨rfl, HB.out⟩

/-- Only blocks between two have turned. -/
structure OnlyIn (B C : Nat) (w w' : World) : Prop where
  below : Below B w w'
  above : ∀ i, C ≤ i → i < w.heap.size → w'.heap[i]? = w.heap[i]?
  kept : ∀ (i : Nat) (cs : Array Value) (e : Nat), e ≠ 3 → w.heap[i]? = some (Obj.cells cs e (0, 0)) → w'.heap[i]? = w.heap[i]?
theorem GraphO.only {B C D : Nat} {w w' : World} {v : Value} {ls : List (List Int)} {l : List Int} (h : GraphO D w v ls l) (hg : OnlyIn B C w w') (hD : C ≤ D) : GraphO D w' v ls l := by
  obtain ⟨nv, ov, sl, hv, h1, h2, h3⟩ := h
  have one : ∀ {e n : Nat} {x : Value} {xs : List Value}, w.ownsRow D e 1 x n xs → w'.ownsRow D e 1 x n xs := by
    intro e n x xs h
    refine ⟨h.1, ?_⟩
    rcases h.2 with h0 | ⟨g, cap, cur, hv, hB, hh, r⟩
    · exact .inl h0
    · exact .inr ⟨g, cap, cur, hv, hB, (hg.above g (by omega) (lt_of_block hh)).trans hh, r⟩
  exact ⟨nv, ov, sl, hv, h1, one h2, fun p hp => one (h3.1 p hp), h3.2⟩
theorem own_only {B C D e n : Nat} {w w' : World} {v : Value} {xs : List Value} (h : w.ownsRow D e 1 v n xs) (hg : OnlyIn B C w w') (hD : C ≤ D) : w'.ownsRow D e 1 v n xs := by
  refine ⟨h.1, ?_⟩
  rcases h.2 with h0 | ⟨g, cap, cur, hv, hB, hh, r⟩
  · exact .inl h0
  · exact .inr ⟨g, cap, cur, hv, hB, (hg.above g (by omega) (lt_of_block hh)).trans hh, r⟩
theorem Blk2.only {B C b t : Nat} {w w' : World} {x y : Value} (h : Blk2 w b t x y) (hg : OnlyIn B C w w') (hb : b < B ∨ C ≤ b) : Blk2 w' b t x y := by
  rcases hb with hb | hb
  · exact h.below hg.below hb
  · exact (hg.above b hb (lt_of_block h)).trans h

theorem Blk2.kept {B C b t : Nat} {w w' : World} {x y : Value} (h : Blk2 w b t x y) (hg : OnlyIn B C w w') (ht : t ≠ 3) : Blk2 w' b t x y := (hg.kept b _ t ht h).trans h
/-- How many numbers a graph has. -/
def totalG (ls : List (List Int)) (l : List Int) : Nat := total ls + l.length
theorem GrownL.more {w w1 w2 : World} {L M : List (Value × List Int)} (h : GrownL w w1 L) (hs : ∀ p ∈ L, p ∈ M) : GrownL w w1 M :=
  ⟨h.os, h.tape, h.output, h.size, fun i hi hne => h.block i hi (fun p hp => hne p (hs p hp))⟩

set_option maxRecDepth 20000 in
set_option maxHeartbeats 4000000 in
theorem markGraph_any (ls : List (List Int)) (l : List Int) (k B : Nat) (v : Value) (w0 w : World) (h0 : GraphO B w0 v ls l) (hb0 : Below w0.heap.size w0 w) (hB : B ≤ w0.heap.size) (hl : ls.length + total ls + l.length ≤ 1500000) (hk : k ≤ 1000) :
    Calls Try.prog 15 #[v, .int .i64 (k : Int)] w fun e w' => e = .returned (.int .i64 ((k + totalG ls l : Nat) : Int)) ∧ GraphO B w' v (marksL k ls) (marks ((k + total ls : Nat) : Int) l.length) ∧ OnlyIn B w0.heap.size w w' := by
  obtain ⟨nv, ov, sl, rfl, hs, hn, hL⟩ := h0
  have hlt : ∀ p ∈ sl.zip ls ++ [(ov, l)], ∀ i, p.1.ownBlock = some i → B ≤ i ∧ i < w0.heap.size := fun p hp i hi => (hL.1 p hp).lt i hi
  have HLT := Lib.hid hlt
  have hnw := own_below hn hb0
  have hLw := hL.below hb0
  obtain ⟨an, cn, rfl⟩ := own_slice hn
  obtain ⟨ao, co, hov⟩ := own_slice (hL.1 (ov, l) (List.mem_append.2 (.inr (List.mem_singleton.2 rfl))))
  simp only at hov
  subst hov
  obtain ⟨wa, hwa⟩ : ∃ wa, wa = w.alloc (.cells #[.slice an ls.length cn, .slice ao l.length co] 27) := ⟨_, rfl⟩
  have P0 : Hid (Blk2 wa w.heap.size 27 (.slice an ls.length cn) (.slice ao l.length co)) := by rw [hwa]; exact Blk2.new
  have hAw : Below w.heap.size w wa := by rw [hwa]; exact (Below.refl w.heap.size w).alloc (Nat.le_refl _) _
  have HA := Lib.hid hAw
  have hsa : wa.heap.size = w.heap.size + 1 := by rw [hwa]; simp
  have hsw : w0.heap.size ≤ w.heap.size := hb0.size
  have HN := Lib.hid (own_below hnw hAw)
  have HL := Lib.hid (hLw.below hAw)
  have HWA := Lib.hid hwa
  have HC := Lib.hid (markIntSS_any ls [(.slice ao l.length co, l)] k B B _ sl wa hs HN.out HL.out (by omega) (by omega))
  have hpb : ∀ (L : List (Value × List Int)) (x y : World), GrownL x y L → (∀ p ∈ L, p ∈ sl.zip ls ++ [(.slice ao l.length co, l)]) → w.heap.size < x.heap.size → x.heap[w.heap.size]? = y.heap[w.heap.size]? := by
    intro L x y hg hm hx
    refine (hg.block w.heap.size hx (fun p hp hi => ?_)).symm
    have := (HLT.out p (hm p hp) _ hi).2
    omega
  have HPB := Lib.hid hpb
  clear hlt hnw hLw hn hL hAw hwa hpb hb0
  go_enter Try.func15, Try.ntmps15
  go_wp2_with fail
  rw [← HWA.out]
  refine HC.out.mono ?_
  rintro e w1 ⟨rfl, hL1, hg1⟩
  have hm1 : ∀ p ∈ sl.zip ls, p ∈ sl.zip ls ++ [(Value.slice ao l.length co, l)] := fun p hp => List.mem_append.2 (.inl hp)
  have P1 := Lib.hid (show Blk2 w1 w.heap.size 27 (.slice an ls.length cn) (.slice ao l.length co) from (HPB.out _ _ _ hg1 hm1 (by omega)).symm.trans P0.out)
  have hn1 := own_grownL HN.out (by decide) HL.out.left hg1
  have c1 := P1.out.cells.2
  have hone := hL1.1 (.slice ao l.length co, l) (List.mem_append.2 (.inr (List.mem_singleton.2 rfl)))
  have HC2 := Lib.hid (markIntS_l (l := l) (k := k + total ls) (i := ((k + total ls : Nat) : Int)) (r := ((k + totalG ls l : Nat) : Int)) rfl (by unfold totalG; omega) hone (by omega) (by omega))
  have HG1 := Lib.hid (hg1.more hm1 (w2 := w1))
  have HL1 := Lib.hid hL1
  have HN1 := Lib.hid hn1
  clear hL1 hg1 hn1 hone hm1 HC
  generalize hq : k + total ls = q at *
  have HQ := Lib.hid hq
  clear hq
  go_wp2_with fail
  refine HC2.out.mono ?_
  rintro e w2 ⟨rfl, ho2, hg2⟩
  have HF : Hid (GraphO B w2 (.agg #[.slice an ls.length cn, .slice ao l.length co]) (marksL k ls) (marks (q : Int) l.length) ∧ OnlyIn B w0.heap.size w w2) := by
    have hL2 := HL1.out.turn (L := sl.zip (marksL k ls)) (M := []) (v' := .slice ao l.length co) (l' := marks (q : Int) l.length) hg2 (by rw [marks_len]; exact ho2) (fun b hb => .inl hb)
    have hg := HG1.out.one hg2 (l := l) (List.mem_append.2 (.inr (List.mem_singleton.2 rfl)))
    have hml := marksL_len k ls
    refine ⟨⟨_, _, sl, rfl, by rw [hml]; exact hs, ?_, hL2⟩, ?_, fun i hi hiw => ?_, fun i cs e he hi => ?_⟩
    · rw [hml]
      exact own_apartI HN1.out hg2 (fun i hi hi' => own_typesI HN1.out (HL1.out.1 (.slice ao l.length co, l) (List.mem_append.2 (.inr (List.mem_singleton.2 rfl)))) (by decide) i hi' hi)
    · have := hg.below HL.out (by omega)
      exact HA.out.mono (by omega) |>.trans this
    · have h1 := hg.block i (by omega) (fun p hp hpi => by have := (HLT.out p hp i hpi).2; omega)
      exact h1.trans (HA.out.block i hiw)
    · have hiw := lt_of_block hi
      have hi' := (HA.out.block i hiw).trans hi
      have h1 := hg.block i (by omega) (fun p hp hpi => by
        rcases (HL.out.1 p hp).2 with ⟨hv, _⟩ | ⟨g, cap, cur, hv, _, hg', _⟩
        · rw [hv] at hpi; simp [Value.ownBlock] at hpi
        · rw [hv] at hpi
          simp only [Value.ownBlock, Option.some.injEq] at hpi
          subst hpi
          rw [hi'] at hg'
          simp at hg'
          exact he hg'.2)
      exact h1.trans (HA.out.block i hiw)
  clear ho2 hg2
  go_wp2_with fail
  go_ret
  exact ⟨rfl, by rw [HQ.out]; exact HF.out.1, HF.out.2⟩

set_option maxRecDepth 20000 in
set_option maxHeartbeats 4000000 in
theorem heldGraph_any (ls : List (List Int)) (l : List Int) (k : Nat) (v : Value) (w : World) (hst : GraphV w v (marksL k ls) (marks ((k + total ls : Nat) : Int) l.length)) (hl : ls.length + total ls + l.length ≤ 1500000) (hk : k ≤ 1000) :
    Calls Try.prog 17 #[v, .int .i64 (k : Int)] w fun e w' => e = .returned (.int .i64 ((k + totalG ls l : Nat) : Int)) ∧ Below w.heap.size w w' := by
  obtain ⟨nv, ov, rfl, h1, h2⟩ := hst
  have H1 := Lib.hid h1
  have H2 := Lib.hid h2
  obtain ⟨an, cn, hvn, _⟩ := h1.lists
  obtain ⟨ao, co, hvo, _⟩ := h2.ints
  rw [marksL_len] at hvn
  rw [marks_len] at hvo
  subst hvn hvo
  clear h1 h2
  obtain ⟨wa, hwa⟩ : ∃ wa, wa = w.alloc (.cells #[.slice an ls.length cn, .slice ao l.length co] 27) := ⟨_, rfl⟩
  have P0 : Hid (Blk2 wa w.heap.size 27 (.slice an ls.length cn) (.slice ao l.length co)) := by rw [hwa]; exact Blk2.new
  have HA : Hid (Below w.heap.size w wa) := by rw [hwa]; exact (Below.refl w.heap.size w).alloc (Nat.le_refl _) _
  have hsa : wa.heap.size = w.heap.size + 1 := by rw [hwa]; simp
  have HWA := Lib.hid hwa
  have HC := Lib.hid (heldIntSS_any ls k _ wa (H1.out.below HA.out) (by omega) (by omega))
  have HC2 := Lib.hid (fun W (h : RowV W (.slice ao l.length co) (I (marks ((k + total ls : Nat) : Int) l.length))) => heldIntS_l (k := k + total ls) (n := l.length) (i := ((k + total ls : Nat) : Int)) (r := ((k + totalG ls l : Nat) : Int)) (w := W) rfl (by unfold totalG; omega) h (by omega) (by omega))
  have t1 : decide (((k + total ls : Nat) : Int) < 0) = false := decide_eq_false (by omega)
  have t2 : decide (((k + totalG ls l : Nat) : Int) < 0) = false := decide_eq_false (by omega)
  clear hwa
  generalize k + total ls = q at *
  generalize k + totalG ls l = q2 at *
  go_enter Try.func17, Try.ntmps17
  go_wp2_with fail
  rw [← HWA.out]
  refine HC.out.mono ?_
  rintro e w1 ⟨rfl, hb1⟩
  have HB1 := Lib.hid (bth HA.out hb1 (Nat.le_refl _))
  have c1 := (P0.out.below hb1 (by omega)).cells.2
  clear hb1
  go_wp2_with fail
  refine (HC2.out w1 (H2.out.below HB1.out)).mono ?_
  rintro e w2 ⟨rfl, hb2⟩
  have HB2 := Lib.hid (bth HB1.out hb2 (Nat.le_refl _))
  clear hb2
  go_wp2_with fail
  go_ret
  exact ⟨rfl, HB2.out⟩
end Go.Proofs.Ytnkkbleebfijgaa

/- Numbers in memory of the call's own: one taken out, by the library; lists in a graph replaced. -/
namespace Go.Proofs.Ytnkkbleebfijgaa
open Go.RowKit Pth Go.Lib Go.Sort

theorem grown_putRow {w : World} {g q : Nat} (d : Array Int) : w.grownBy (putRow (Value.int .i64) (Sort.ahead w q) g 0 d) (some g) :=
  ⟨rfl, rfl, rfl, by simp [putRow, mapBlock, Sort.ahead], fun k hk hne => by
    have : g ≠ k := fun e => hne (by rw [e])
    simp [putRow, mapBlock, Sort.ahead, Array.getElem?_modify, this]⟩
/-- Without one number. -/
def dropL (l : List Int) (x : Int) : List Int := l.filter (fun y => decide (y ≠ x))
theorem drop_at {l : List Int} {x : Int} (hr : Rise l) (hm : x ∈ l) : l.take (pos l x) ++ l.drop (pos l x + 1) = dropL l x := by
  obtain ⟨a, b, rfl, ha⟩ := mem_first hm
  rw [pos_split ha]
  have hb : x ∉ b := by
    intro h
    unfold Rise at hr
    rw [List.pairwise_append, List.pairwise_cons] at hr
    have := hr.2.1.1 x h
    omega
  have fa : a.filter (fun y => decide (y ≠ x)) = a := List.filter_eq_self.2 (fun y hy => by simp; exact fun e => ha (e ▸ hy))
  have fb : b.filter (fun y => decide (y ≠ x)) = b := List.filter_eq_self.2 (fun y hy => by simp; exact fun e => hb (e ▸ hy))
  unfold dropL
  rw [List.filter_append, List.filter_cons_of_neg (by simp), fa, fb]
  simp
theorem zip_set {sl : List Value} {ls : List (List Int)} {j : Nat} (hs : sl.length = ls.length) (hj : j < ls.length) (u : Value) (x : List Int) :
    (sl.set j u).zip (ls.set j x) = (sl.take j).zip (ls.take j) ++ (u, x) :: (sl.drop (j + 1)).zip (ls.drop (j + 1)) := by
  rw [List.set_eq_take_append_cons_drop, List.set_eq_take_append_cons_drop, if_pos (by omega), if_pos hj, List.zip_append (by rw [List.length_take, List.length_take]; omega), List.zip_cons_cons]
theorem zip_mid {sl : List Value} {ls : List (List Int)} {j : Nat} (hs : sl.length = ls.length) (hj : j < ls.length) :
    sl.zip ls = (sl.take j).zip (ls.take j) ++ (sl[j]'(by omega), ls[j]) :: (sl.drop (j + 1)).zip (ls.drop (j + 1)) := by
  have := zip_split (M := ls.take j) hs (by rw [List.length_take]; omega) hj
  rw [List.take_append_drop] at this
  exact this
/-- One list of a graph replaced by one that turned in its block, or by a new one. -/
theorem Lists.put {B : Nat} {w w' : World} {sl : List Value} {ls : List (List Int)} {R : List (Value × List Int)} {j : Nat} {u : Value} {x : List Int} (hs : sl.length = ls.length) (hj : j < ls.length) (h : Lists B w (sl.zip ls ++ R)) (hg : w.grownBy w' (sl[j]'(by omega)).ownBlock) (hown : w'.ownsRow B 3 1 u x.length (I x))
    (hv : ∀ b, u.ownBlock = some b → (sl[j]'(by omega)).ownBlock = some b ∨ w.heap.size ≤ b) : Lists B w' ((sl.set j u).zip (ls.set j x) ++ R) := by
  rw [zip_set hs hj, List.append_assoc, List.cons_append]
  rw [zip_mid hs hj, List.append_assoc, List.cons_append] at h
  exact h.turn hg hown hv
end Go.Proofs.Ytnkkbleebfijgaa

/- What AddNeed wants: an append that tells where it lies, a sort that turns its own row alone, one more need. -/
namespace Go.Proofs.Ytnkkbleebfijgaa
open Go.RowKit Pth Go.Lib Go.Sort

/-- One number behind a row of the call's own, and where the new row lies. -/
theorem app_at (m : List Int) (x : Int) (v : Value) (B : Nat) (w : World) (hown : w.ownsRow B 3 1 v m.length (I m)) (hm : m.length ≤ 1000) (hB : B ≤ w.heap.size) (ty : TypeId) :
    ∃ v' w', (Builtin.append_ #[23, 23] ty #[v, .slice (some ⟨w.heap.size, 0, none⟩) 1 1]).run Try.prog (w.alloc (.cells #[.int .i64 x] 3)) = .ok v' w' ∧ w'.ownsRow B 3 1 v' (m ++ [x]).length (I (m ++ [x])) ∧ w.grownBy w' v.ownBlock ∧ (∀ b, v'.ownBlock = some b → v.ownBlock = some b ∨ w.heap.size ≤ b) := by
  obtain ⟨i0, hi, hz0, hz1, hz2⟩ := info_parts elemI.info
  obtain ⟨v', w', h1, h2, h3, _, h5⟩ := run_append_own_at (P := Try.prog) (w.alloc (.cells #[.int .i64 x] 3)) B 23 ty 3 i0 (.int .i64 0) 1 8 elemI.under hi hz0 hz1 hz2 rfl (by decide) v m.length (I m) (hown.alloc _) ⟨w.heap.size, 0, none⟩ 1 1 [.int .i64 x] (by simp) (fun j u hj => by
      have hj0 : j = 0 := by
        rcases j with _ | j
        · rfl
        · simp at hj
      subst hj0
      simp only [List.getElem?_cons_zero, Option.some.injEq] at hj
      subst hj
      have := one_new w (.int .i64 x) 3 0 (.int .i64 x) rfl
      exact this) (by simp [Value.oneCell']) (by unfold maxLen; omega) (by omega) (by rw [World.size_alloc]; omega)
  refine ⟨v', w', h1, ?_, ?_, ?_⟩
  · have e : I (m ++ [x]) = I m ++ [.int .i64 x] := I_append _ _
    rw [e, List.length_append, List.length_singleton]
    exact h2
  · exact ⟨h3.os, h3.tape, h3.output, Nat.le_trans (by rw [World.size_alloc]; omega) h3.size, fun k hk hne => (h3.block k (by rw [World.size_alloc]; omega) hne).trans (Below.heap_alloc _ _ _ hk)⟩
  · intro b hb
    rcases h5 with h5 | h5
    · exact .inl (by rw [← h5]; exact hb)
    · rw [hb, World.size_alloc] at h5
      have := Option.some.inj h5
      exact .inr (by omega)

theorem sortG_any (l : List Int) (v : Value) (B : Nat) (w : World) (hown : w.ownsRow B 3 1 v l.length (I l)) (hl : l.length ≤ 1000000) :
    Calls Try.prog 58 #[v] w fun e w' => e = .returned (.tuple #[]) ∧ w'.ownsRow B 3 1 v (sortI l).length (I (sortI l)) ∧ w.grownBy w' v.ownBlock := by
  rcases hown.2 with ⟨hv, h0⟩ | ⟨g, cap, cur, hv, hBg, hh, h1, h2, h3, h4⟩
  · subst hv
    have h00 : l = [] := List.eq_nil_of_length_eq_zero h0
    subst h00
    refine (Try.slices_Sort_int_none none 0 w).mono fun e w' ⟨he, hw⟩ => ?_
    subst hw
    rw [show sortI [] = [] by simp [sortI]]
    exact ⟨he, hown, grown_refl _ _⟩
  · subst hv
    have hH := holds_of_blockI (ss := l) hh (by rw [Nat.mul_one] at h4; rw [← I_enc]; exact h4)
    refine (Try.slices_Sort_int g 0 cap l w hH (lt_of_block hh) (by omega)).mono ?_
    rintro e w' ⟨he, n, os, rfl⟩
    refine ⟨he, ?_, grownBy_sortedI _⟩
    have := ownsRow_sortedI (base := B) (n := n) (os := os) (ss := l) (ts := sortI l) (sortI_len l) hBg hh h1 h2 h3
    rw [sortI_len, I_enc]
    exact this
/-- One more, sorted, is one put among them. -/
theorem sort_put {l : List Int} {x : Int} (hr : Rise l) (hx : x ∉ l) : sortI (l ++ [x]) = putL l x := by
  have hn : (l ++ [x]).Nodup := by
    rw [List.nodup_append]
    refine ⟨rise_nodup hr, by simp, fun a ha b hb => ?_⟩
    rw [List.mem_singleton] at hb
    subst hb
    intro e
    exact hx (by rw [← e]; exact ha)
  have hd : (sortI (l ++ [x])).Nodup := (sortI_perm _).nodup_iff.2 hn
  have h2 := List.Pairwise.and (sortI_sorted (l ++ [x])) hd
  refine rise_ext (h2.imp (fun h => by omega)) (put_rise hr) (fun y => ?_)
  rw [(sortI_perm _).mem_iff, mem_put, List.mem_append, List.mem_singleton]
  constructor
  · rintro (h | h)
    · exact .inr h
    · exact .inl h
  · rintro (h | h)
    · exact .inr h
    · exact .inl h
end Go.Proofs.Ytnkkbleebfijgaa
