/- Texts of one claim, joined in their order. -/
import Derived.Laws.EntriesVeiled
import Derived.Test.YtngldlconipnnaaGreatDoorM6
import Derived.Test.YtngldlconipnnaaGreatDoorM14
import Derived.Test.YtngldlconipnnaaGreatDoorM4
import Derived.Test.YtngldlconipnnaaGreatDoorM11
import Derived.Test.YtngldlconipnnaaGreatDoorM13
import Derived.Test.YtngldlconipnnaaGreatDoorM12

/- Plain mathematics of what a change touches: what leads to some tasks and what they lead to; no program. -/
namespace Go.Proofs.YtngldlconipnnaaGreatDoor
namespace Pth

/-- What leads to one of some by needs. -/
inductive Up (ls : List (List Int)) (P : Int → Prop) : Int → Prop
  | base {k : Int} : P k → Up ls P k
  | step {k x : Int} : 0 ≤ k → x ∈ needsAt ls k → Up ls P x → Up ls P k
/-- What some lead to by needs. -/
inductive Dn (ls : List (List Int)) (P : Int → Prop) : Int → Prop
  | base {k : Int} : P k → Dn ls P k
  | step {k u : Int} : 0 ≤ u → k ∈ needsAt ls u → Dn ls P u → Dn ls P k

theorem needs_in {ls : List (List Int)} {k x : Int} (h0 : 0 ≤ k) (h : x ∈ needsAt ls k) : k < (ls.length : Int) := by
  unfold needsAt at h
  rcases Nat.lt_or_ge k.toNat ls.length with h1 | h1
  · omega
  · rw [List.getD_eq_getElem?_getD, List.getElem?_eq_none h1] at h
    simp at h
theorem Up.mono {ls : List (List Int)} {P Q : Int → Prop} (h : ∀ x, P x → Q x) {k : Int} (hk : Up ls P k) : Up ls Q k := by
  induction hk with
  | base hp => exact .base (h _ hp)
  | step h0 hx _ ih => exact .step h0 hx ih
theorem Up.twice {ls : List (List Int)} {P Q : Int → Prop} (h : ∀ x, P x → Up ls Q x) {k : Int} (hk : Up ls P k) : Up ls Q k := by
  induction hk with
  | base hp => exact h _ hp
  | step h0 hx _ ih => exact .step h0 hx ih
theorem Dn.twice {ls : List (List Int)} {P Q : Int → Prop} (h : ∀ x, P x → Dn ls Q x) {k : Int} (hk : Dn ls P k) : Dn ls Q k := by
  induction hk with
  | base hp => exact h _ hp
  | step h0 hx _ ih => exact .step h0 hx ih
theorem Dn.mono {ls : List (List Int)} {P Q : Int → Prop} (h : ∀ x, P x → Q x) {k : Int} (hk : Dn ls P k) : Dn ls Q k := hk.twice (fun x hx => .base (h x hx))
theorem Up.none {ls : List (List Int)} {k : Int} : ¬ Up ls (fun _ => False) k := by
  intro h
  induction h with
  | base h => exact h
  | step _ _ _ ih => exact ih
theorem Dn.none {ls : List (List Int)} {k : Int} : ¬ Dn ls (fun _ => False) k := by
  intro h
  induction h with
  | base h => exact h
  | step _ _ _ ih => exact ih

theorem GoodP.needs_take {ls : List (List Int)} {l : List Int} (h : GoodP ls l) {k : Nat} (hk : k < l.length) {x : Int} (hx : x ∈ needsAt ls l[k]) : x ∈ l.take k := by
  obtain ⟨t, ht, he, _, _, h2⟩ := h.each k hk
  rw [he, needsAt_get ht] at hx
  exact h2 x hx
theorem GoodP.all {ls : List (List Int)} {l : List Int} (h : GoodP ls l) {k : Int} : k ∈ l ↔ 0 ≤ k ∧ k < (ls.length : Int) :=
  ⟨h.range k, fun hk => all_there h.same h.nodup h.range hk⟩
theorem GoodP.self {ls : List (List Int)} {l : List Int} (h : GoodP ls l) {k : Nat} (hk : k < l.length) : l[k] ∉ needsAt ls l[k] := fun hx => nodup_at h.nodup hk (h.needs_take hk hx)
theorem Up.range {ls : List (List Int)} {P : Int → Prop} (hp : ∀ x, P x → 0 ≤ x ∧ x < (ls.length : Int)) {k : Int} (h : Up ls P k) : 0 ≤ k ∧ k < (ls.length : Int) := by
  cases h with
  | base h => exact hp _ h
  | step h0 hx _ => exact ⟨h0, needs_in h0 hx⟩
theorem Dn.range {ls : List (List Int)} {l : List Int} (hg : GoodP ls l) {P : Int → Prop} (hp : ∀ x, P x → 0 ≤ x ∧ x < (ls.length : Int)) {k : Int} (h : Dn ls P k) : 0 ≤ k ∧ k < (ls.length : Int) := by
  cases h with
  | base h => exact hp _ h
  | step h0 hx _ =>
    rename_i u hu
    have hul := hg.all.2 ⟨h0, needs_in h0 hx⟩
    obtain ⟨i, hi, rfl⟩ := List.getElem_of_mem hul
    exact hg.range _ (List.mem_of_mem_take (hg.needs_take hi hx))

/-- Along the order: one is marked where one that it needs is. -/
theorem up_along {ls : List (List Int)} {l : List Int} (hg : GoodP ls l) {P : Int → Prop} {S : Nat → Int → Prop} (h0 : ∀ y ∈ l, S 0 y ↔ P y)
    (hs : ∀ k (hk : k < l.length), ∀ y ∈ l, (S (k + 1) y ↔ S k y ∨ (y = l[k] ∧ ∃ x ∈ needsAt ls l[k], S k x))) :
    ∀ k, k ≤ l.length → ∀ y ∈ l, (S k y ↔ P y ∨ (y ∈ l.take k ∧ Up ls P y)) := by
  intro k
  induction k with
  | zero => intro _ y hy; rw [h0 y hy]; simp
  | succ k ih =>
    intro hk y hy
    have hk' : k < l.length := by omega
    rw [hs k hk' y hy, ih (by omega) y hy]
    have hu0 := (hg.range l[k] (List.getElem_mem hk')).1
    constructor
    · rintro ((h | ⟨h1, h2⟩) | ⟨rfl, x, hx, hxs⟩)
      · exact .inl h
      · exact .inr ⟨List.mem_of_mem_take (i := k) (by rw [List.take_take, Nat.min_eq_left (by omega)]; exact h1), h2⟩
      · have hxl := hg.needs_take hk' hx
        refine .inr ⟨by rw [List.take_succ_eq_append_getElem hk']; exact List.mem_append.2 (.inr (List.mem_singleton.2 rfl)), ?_⟩
        rcases (ih (by omega) x (List.mem_of_mem_take hxl)).1 hxs with h | ⟨_, h⟩
        · exact .step hu0 hx (.base h)
        · exact .step hu0 hx h
    · rintro (h | ⟨h1, h2⟩)
      · exact .inl (.inl h)
      · rw [List.take_succ_eq_append_getElem hk', List.mem_append, List.mem_singleton] at h1
        rcases h1 with h1 | rfl
        · exact .inl (.inr ⟨h1, h2⟩)
        · cases h2 with
          | base h => exact .inl (.inl h)
          | @step _ x _ hx hux =>
            have hxl := hg.needs_take hk' hx
            exact .inr ⟨rfl, x, hx, (ih (by omega) x (List.mem_of_mem_take hxl)).2 (.inr ⟨hxl, hux⟩)⟩
theorem up_whole {ls : List (List Int)} {l : List Int} (hg : GoodP ls l) {P : Int → Prop} {S : Nat → Int → Prop} (h0 : ∀ y ∈ l, S 0 y ↔ P y)
    (hs : ∀ k (hk : k < l.length), ∀ y ∈ l, (S (k + 1) y ↔ S k y ∨ (y = l[k] ∧ ∃ x ∈ needsAt ls l[k], S k x))) :
    ∀ y ∈ l, (S l.length y ↔ Up ls P y) := by
  intro y hy
  rw [up_along hg h0 hs l.length (Nat.le_refl _) y hy, List.take_length]
  constructor
  · rintro (h | ⟨_, h⟩)
    · exact .base h
    · exact h
  · exact fun h => .inr ⟨hy, h⟩

/-- Against the order: what one needs that is marked is marked. -/
theorem dn_along {ls : List (List Int)} {l : List Int} (hg : GoodP ls l) {P : Int → Prop} {S : Nat → Int → Prop} (h0 : ∀ y ∈ l, S 0 y ↔ P y)
    (hs : ∀ k (hk : k < l.length), ∀ y ∈ l, (S (l.length - k) y ↔ S (l.length - (k + 1)) y ∨ (S (l.length - (k + 1)) l[k] ∧ y ∈ needsAt ls l[k]))) :
    ∀ j, j ≤ l.length → ∀ y ∈ l, (S j y ↔ P y ∨ ∃ i, ∃ hi : i < l.length, l.length - j ≤ i ∧ Dn ls P l[i] ∧ y ∈ needsAt ls l[i]) := by
  intro j
  induction j with
  | zero =>
    intro _ y hy
    rw [h0 y hy]
    constructor
    · exact .inl
    · rintro (h | ⟨i, hi, h, _⟩)
      · exact h
      · omega
  | succ j ih =>
    intro hj y hy
    have hk : l.length - (j + 1) < l.length := by omega
    have hst := hs (l.length - (j + 1)) hk y hy
    rw [show l.length - (l.length - (j + 1)) = j + 1 by omega, show l.length - (l.length - (j + 1) + 1) = j by omega] at hst
    have hul := List.getElem_mem hk
    have hu0 := (hg.range _ hul).1
    have hU : S j l[l.length - (j + 1)] ↔ Dn ls P l[l.length - (j + 1)] := by
      rw [ih (by omega) _ hul]
      constructor
      · rintro (h | ⟨i, hi, _, h, hm⟩)
        · exact .base h
        · exact .step (hg.range _ (List.getElem_mem hi)).1 hm h
      · intro h
        cases h with
        | base h => exact .inl h
        | step hv0 hm hv =>
          rename_i v
          obtain ⟨i, hi, rfl⟩ := List.getElem_of_mem (hg.all.2 ⟨hv0, needs_in hv0 hm⟩)
          have h1 := (mem_take_pos.1 (hg.needs_take hi hm)).2
          rw [pos_nodup hg.nodup hk] at h1
          exact .inr ⟨i, hi, by omega, hv, hm⟩
    rw [hst, ih (by omega) y hy, hU]
    constructor
    · rintro ((h | ⟨i, hi, h1, h2, h3⟩) | ⟨h1, h2⟩)
      · exact .inl h
      · exact .inr ⟨i, hi, by omega, h2, h3⟩
      · exact .inr ⟨_, hk, Nat.le_refl _, h1, h2⟩
    · rintro (h | ⟨i, hi, h1, h2, h3⟩)
      · exact .inl (.inl h)
      · rcases Nat.lt_or_ge i (l.length - j) with h4 | h4
        · obtain rfl : i = l.length - (j + 1) := by omega
          exact .inr ⟨h2, h3⟩
        · exact .inl (.inr ⟨i, hi, h4, h2, h3⟩)
theorem dn_whole {ls : List (List Int)} {l : List Int} (hg : GoodP ls l) {P : Int → Prop} {S : Nat → Int → Prop} (h0 : ∀ y ∈ l, S 0 y ↔ P y)
    (hs : ∀ k (hk : k < l.length), ∀ y ∈ l, (S (l.length - k) y ↔ S (l.length - (k + 1)) y ∨ (S (l.length - (k + 1)) l[k] ∧ y ∈ needsAt ls l[k]))) :
    ∀ y ∈ l, (S l.length y ↔ Dn ls P y) := by
  intro y hy
  rw [dn_along hg h0 hs l.length (Nat.le_refl _) y hy]
  constructor
  · rintro (h | ⟨i, hi, _, h, hm⟩)
    · exact .base h
    · exact .step (hg.range _ (List.getElem_mem hi)).1 hm h
  · intro h
    cases h with
    | base h => exact .inl h
    | step hv0 hm hv =>
      obtain ⟨i, hi, rfl⟩ := List.getElem_of_mem (hg.all.2 ⟨hv0, needs_in hv0 hm⟩)
      exact .inr ⟨i, hi, by omega, hv, hm⟩

/-- The reference's list, one task's needs seen. -/
def touch1 (k : Int) (out nd : List Int) : List Int := nd.foldl (fun o x => if hasL o x then putL o k else o) out
def touchL (ls : List (List Int)) (out st : List Int) : List Int := st.foldl (fun o k => touch1 k o (needsAt ls k)) out
theorem touch1_mem {k : Int} {nd : List Int} (hk : k ∉ nd) : ∀ {out : List Int} {y : Int}, y ∈ touch1 k out nd ↔ y ∈ out ∨ (y = k ∧ ∃ x ∈ nd, x ∈ out) := by
  induction nd with
  | nil => intro out y; simp [touch1]
  | cons z r ih =>
    intro out y
    rw [List.mem_cons, not_or] at hk
    show y ∈ touch1 k (if hasL out z then putL out k else out) r ↔ _
    rw [ih hk.2]
    by_cases hz : z ∈ out
    · have : hasL out z = true := by simp [hasL, hz]
      rw [this, if_pos rfl, mem_put]
      constructor
      · rintro ((h | h) | ⟨h1, x, hx, h2⟩)
        · exact .inr ⟨h, z, by simp, hz⟩
        · exact .inl h
        · exact .inr ⟨h1, z, by simp, hz⟩
      · rintro (h | ⟨h1, _⟩)
        · exact .inl (.inr h)
        · exact .inl (.inl h1)
    · have : hasL out z = false := by simp [hasL, hz]
      rw [this, if_neg (by simp)]
      constructor
      · rintro (h | ⟨h1, x, hx, h2⟩)
        · exact .inl h
        · exact .inr ⟨h1, x, by simp [hx], h2⟩
      · rintro (h | ⟨h1, x, hx, h2⟩)
        · exact .inl h
        · rw [List.mem_cons] at hx
          rcases hx with rfl | hx
          · exact absurd h2 hz
          · exact .inr ⟨h1, x, hx, h2⟩
theorem touch1_rise {k : Int} (nd : List Int) : ∀ {out : List Int}, Rise out → Rise (touch1 k out nd) := by
  induction nd with
  | nil => intro out h; exact h
  | cons z r ih =>
    intro out h
    show Rise (touch1 k (if hasL out z then putL out k else out) r)
    apply ih
    split
    · exact put_rise h
    · exact h
theorem touch1_snoc (k : Int) (out nd : List Int) (x : Int) : touch1 k out (nd ++ [x]) = if hasL (touch1 k out nd) x then putL (touch1 k out nd) k else touch1 k out nd := by
  unfold touch1; rw [List.foldl_append]; rfl
theorem touchL_snoc (ls : List (List Int)) (out st : List Int) (k : Int) : touchL ls out (st ++ [k]) = touch1 k (touchL ls out st) (needsAt ls k) := by
  unfold touchL; rw [List.foldl_append]; rfl
theorem touchL_rise (ls : List (List Int)) (st : List Int) : ∀ {out : List Int}, Rise out → Rise (touchL ls out st) := by
  induction st with
  | nil => intro out h; exact h
  | cons z r ih => intro out h; exact ih (touch1_rise _ h)
theorem touchL_mem {ls : List (List Int)} {l : List Int} (hg : GoodP ls l) {cs : List Int} : ∀ y ∈ l, (y ∈ touchL ls cs l ↔ Up ls (· ∈ cs) y) := by
  have := up_whole hg (P := (· ∈ cs)) (S := fun k y => y ∈ touchL ls cs (l.take k)) (fun y _ => by simp [touchL]) (fun k hk y _ => by
    show y ∈ touchL ls cs (l.take (k + 1)) ↔ _
    rw [List.take_succ_eq_append_getElem hk, touchL_snoc, touch1_mem (hg.self hk)])
  simpa using this
theorem touchL_in {ls : List (List Int)} (n : Nat) {st : List Int} (hst : ∀ x ∈ st, 0 ≤ x ∧ x < (n : Int)) : ∀ {out : List Int}, (∀ x ∈ out, 0 ≤ x ∧ x < (n : Int)) → ∀ x ∈ touchL ls out st, 0 ≤ x ∧ x < (n : Int) := by
  induction st with
  | nil => intro out h; exact h
  | cons z r ih =>
    intro out h
    refine ih (fun x hx => hst x (by simp [hx])) (fun x hx => ?_)
    have hx' : x ∈ touch1 z out (needsAt ls z) := hx
    have key : ∀ (nd o : List Int), (∀ x ∈ o, 0 ≤ x ∧ x < (n : Int)) → ∀ x ∈ touch1 z o nd, 0 ≤ x ∧ x < (n : Int) := by
      intro nd
      induction nd with
      | nil => intro o h; exact h
      | cons a b ihb =>
        intro o ho
        refine ihb _ (fun x hx0 => ?_)
        have hx : x ∈ (if hasL o a then putL o z else o) := hx0
        split at hx
        · rcases mem_put.1 hx with rfl | hx
          · exact hst _ (by simp)
          · exact ho x hx
        · exact ho x hx
    exact key _ _ h x hx'

open Classical in
/-- What leads to one of some, rising. -/
noncomputable def touchS (ls : List (List Int)) (cs : List Int) : List Int := (upto ls.length).filter (fun y => decide (Up ls (· ∈ cs) y))
open Classical in
/-- What some lead to, rising. -/
noncomputable def needS (ls : List (List Int)) (cs : List Int) : List Int := (upto ls.length).filter (fun y => decide (Dn ls (· ∈ cs) y))
theorem mem_touchS {ls : List (List Int)} {cs : List Int} {y : Int} : y ∈ touchS ls cs ↔ (0 ≤ y ∧ y < (ls.length : Int)) ∧ Up ls (· ∈ cs) y := by
  unfold touchS; rw [List.mem_filter, mem_upto, @decide_eq_true_iff _ (Classical.propDecidable _)]
theorem mem_needS {ls : List (List Int)} {cs : List Int} {y : Int} : y ∈ needS ls cs ↔ (0 ≤ y ∧ y < (ls.length : Int)) ∧ Dn ls (· ∈ cs) y := by
  unfold needS; rw [List.mem_filter, mem_upto, @decide_eq_true_iff _ (Classical.propDecidable _)]
theorem filter_rise {p : Int → Bool} {l : List Int} (h : Rise l) : Rise (l.filter p) := List.Pairwise.filter p h
theorem touchS_rise (ls : List (List Int)) (cs : List Int) : Rise (touchS ls cs) := filter_rise (upto_rise _)
theorem needS_rise (ls : List (List Int)) (cs : List Int) : Rise (needS ls cs) := filter_rise (upto_rise _)
theorem touchS_len (ls : List (List Int)) (cs : List Int) : (touchS ls cs).length ≤ ls.length := by
  have := List.length_filter_le (fun y => @decide (Up ls (· ∈ cs) y) (Classical.propDecidable _)) (upto ls.length)
  rw [upto_len] at this; exact this
theorem needS_len (ls : List (List Int)) (cs : List Int) : (needS ls cs).length ≤ ls.length := by
  have := List.length_filter_le (fun y => @decide (Dn ls (· ∈ cs) y) (Classical.propDecidable _)) (upto ls.length)
  rw [upto_len] at this; exact this
theorem touchL_is {ls : List (List Int)} {l cs : List Int} (hg : GoodP ls l) (hr : Rise cs) (hc : ∀ x ∈ cs, 0 ≤ x ∧ x < (ls.length : Int)) : touchL ls cs l = touchS ls cs := by
  refine rise_ext (touchL_rise _ _ hr) (touchS_rise _ _) (fun x => ?_)
  rw [mem_touchS]
  constructor
  · intro h
    have hx := touchL_in ls.length hg.range hc x h
    exact ⟨hx, (touchL_mem hg x (hg.all.2 hx)).1 h⟩
  · rintro ⟨hx, h⟩
    exact (touchL_mem hg x (hg.all.2 hx)).2 h

/-- The reference's list of what is needed: one task seen. -/
def need1 (out nd : List Int) : List Int := nd.foldl putL out
theorem need1_mem {nd : List Int} : ∀ {out : List Int} {y : Int}, y ∈ need1 out nd ↔ y ∈ out ∨ y ∈ nd := by
  induction nd with
  | nil => intro out y; simp [need1]
  | cons z r ih =>
    intro out y
    show y ∈ need1 (putL out z) r ↔ _
    rw [ih, mem_put, List.mem_cons]
    constructor
    · rintro ((h | h) | h) <;> simp [h]
    · rintro (h | h | h) <;> simp [h]
theorem need1_rise (nd : List Int) : ∀ {out : List Int}, Rise out → Rise (need1 out nd) := by
  induction nd with
  | nil => intro out h; exact h
  | cons z r ih => intro out h; exact ih (put_rise h)
theorem need1_snoc (out nd : List Int) (x : Int) : need1 out (nd ++ [x]) = putL (need1 out nd) x := by
  unfold need1; rw [List.foldl_append]; rfl
/-- From the place k on to the end, seen from the back. -/
def needF (ls : List (List Int)) (cs : List Int) (st : List Int) : List Int := st.foldr (fun k o => if hasL o k then need1 o (needsAt ls k) else o) cs
theorem needF_rise (ls : List (List Int)) (cs : List Int) (h : Rise cs) (st : List Int) : Rise (needF ls cs st) := by
  induction st with
  | nil => exact h
  | cons z r ih =>
    show Rise (if hasL (needF ls cs r) z then need1 (needF ls cs r) (needsAt ls z) else needF ls cs r)
    split
    · exact need1_rise _ ih
    · exact ih
theorem needF_drop {ls : List (List Int)} {cs l : List Int} {k : Nat} (hk : k < l.length) : needF ls cs (l.drop k) = if hasL (needF ls cs (l.drop (k + 1))) l[k] then need1 (needF ls cs (l.drop (k + 1))) (needsAt ls l[k]) else needF ls cs (l.drop (k + 1)) := by
  rw [List.drop_eq_getElem_cons hk]; rfl
theorem needF_mem {ls : List (List Int)} {l : List Int} (hg : GoodP ls l) {cs : List Int} : ∀ y ∈ l, (y ∈ needF ls cs l ↔ Dn ls (· ∈ cs) y) := by
  have := dn_whole hg (P := (· ∈ cs)) (S := fun j y => y ∈ needF ls cs (l.drop (l.length - j))) (fun y _ => by simp [needF]) (fun k hk y _ => by
    show y ∈ needF ls cs (l.drop (l.length - (l.length - k))) ↔ y ∈ needF ls cs (l.drop (l.length - (l.length - (k + 1)))) ∨ (l[k] ∈ needF ls cs (l.drop (l.length - (l.length - (k + 1)))) ∧ _)
    rw [show l.length - (l.length - k) = k by omega, show l.length - (l.length - (k + 1)) = k + 1 by omega, needF_drop hk]
    by_cases h : l[k] ∈ needF ls cs (l.drop (k + 1))
    · have : hasL (needF ls cs (l.drop (k + 1))) l[k] = true := by simp [hasL, h]
      rw [this, if_pos rfl, need1_mem]
      simp [h]
    · have : hasL (needF ls cs (l.drop (k + 1))) l[k] = false := by simp [hasL, h]
      rw [this, if_neg (by simp)]
      simp [h])
  simpa using this
theorem needF_in {ls : List (List Int)} {n : Nat} {cs : List Int} (hls : ∀ k : Nat, ∀ x ∈ needsAt ls (k : Int), 0 ≤ x ∧ x < (n : Int)) (hc : ∀ x ∈ cs, 0 ≤ x ∧ x < (n : Int)) (st : List Int) (hst : ∀ x ∈ st, 0 ≤ x ∧ x < (n : Int)) : ∀ x ∈ needF ls cs st, 0 ≤ x ∧ x < (n : Int) := by
  induction st with
  | nil => exact hc
  | cons z r ih =>
    intro x hx
    have ih' := ih (fun x hx => hst x (by simp [hx]))
    have hz := hst z (by simp)
    have hx' : x ∈ (if hasL (needF ls cs r) z then need1 (needF ls cs r) (needsAt ls z) else needF ls cs r) := hx
    split at hx'
    · rcases need1_mem.1 hx' with h | h
      · exact ih' x h
      · exact hls z.toNat x (by rw [show ((z.toNat : Nat) : Int) = z by omega]; exact h)
    · exact ih' x hx'
theorem GoodP.needs_range {ls : List (List Int)} {l : List Int} (hg : GoodP ls l) (k : Nat) : ∀ x ∈ needsAt ls (k : Int), 0 ≤ x ∧ x < (ls.length : Int) := by
  intro x hx
  obtain ⟨i, hi, he⟩ := List.getElem_of_mem (hg.all.2 ⟨by omega, needs_in (by omega) hx⟩)
  exact hg.range x (List.mem_of_mem_take (hg.needs_take hi (by rw [he]; exact hx)))
theorem needF_is {ls : List (List Int)} {l cs : List Int} (hg : GoodP ls l) (hr : Rise cs) (hc : ∀ x ∈ cs, 0 ≤ x ∧ x < (ls.length : Int)) : needF ls cs l = needS ls cs := by
  refine rise_ext (needF_rise _ _ hr _) (needS_rise _ _) (fun x => ?_)
  rw [mem_needS]
  constructor
  · intro h
    have hx := needF_in hg.needs_range hc l hg.range x h
    exact ⟨hx, (needF_mem hg x (hg.all.2 hx)).1 h⟩
  · rintro ⟨hx, h⟩
    exact (needF_mem hg x (hg.all.2 hx)).2 h

/-- None that is not among some needs one of them. -/
def Shut (ls : List (List Int)) (cs : List Int) : Prop := ∀ u : Nat, u < ls.length → (u : Int) ∉ cs → ∀ x ∈ needsAt ls u, x ∉ cs
theorem shut_touch {ls : List (List Int)} {cs : List Int} (h : Shut ls cs) (hr : Rise cs) (hc : ∀ x ∈ cs, 0 ≤ x ∧ x < (ls.length : Int)) : touchS ls cs = cs := by
  refine rise_ext (touchS_rise _ _) hr (fun x => ?_)
  rw [mem_touchS]
  constructor
  · rintro ⟨hr0, hu⟩
    clear hr0
    induction hu with
    | base h => exact h
    | @step k x h0 hx _ ih =>
      have hk := needs_in h0 hx
      rcases Classical.em (k ∈ cs) with hm | hm
      · exact hm
      · exact absurd ih (h k.toNat (by omega) (by rw [show ((k.toNat : Nat) : Int) = k by omega]; exact hm) x (by rw [show ((k.toNat : Nat) : Int) = k by omega]; exact hx))
  · exact fun h => ⟨hc x h, .base h⟩
theorem rise_nodup {l : List Int} (h : Rise l) : l.Nodup := List.Pairwise.imp (fun h => by omega) h
theorem touch_shut {ls : List (List Int)} {cs : List Int} (hr : Rise cs) (hc : ∀ x ∈ cs, 0 ≤ x ∧ x < (ls.length : Int)) (h : (touchS ls cs).length = cs.length) : Shut ls cs := by
  intro u hu hn x hx hm
  have hm' : (u : Int) ∈ touchS ls cs := mem_touchS.2 ⟨by omega, .step (by omega) hx (.base hm)⟩
  have := nodup_sub (a := (u : Int) :: cs) (b := touchS ls cs) (List.nodup_cons.2 ⟨hn, rise_nodup hr⟩) (fun y hy => by
    rw [List.mem_cons] at hy
    rcases hy with rfl | hy
    · exact hm'
    · exact mem_touchS.2 ⟨hc y hy, .base hy⟩)
  rw [List.length_cons, h] at this
  omega
open Classical in
noncomputable def shutB (ls : List (List Int)) (cs : List Int) : Bool := decide (Shut ls cs)
theorem shutB_len {ls : List (List Int)} {cs : List Int} (hr : Rise cs) (hc : ∀ x ∈ cs, 0 ≤ x ∧ x < (ls.length : Int)) : decide ((touchS ls cs).length = cs.length) = shutB ls cs := by
  unfold shutB
  rw [Bool.eq_iff_iff, decide_eq_true_iff, @decide_eq_true_iff _ (Classical.propDecidable _)]
  exact ⟨touch_shut hr hc, fun h => by rw [shut_touch h hr hc]⟩
theorem sort_filter {s l : List Int} {n : Nat} {p : Int → Bool} (hn : l.Nodup) (hm : ∀ x, x ∈ l ↔ 0 ≤ x ∧ x < (n : Int)) (hp : s.Perm (l.filter p)) (hs : s.Pairwise (· ≤ ·)) : s = (upto n).filter p := by
  have hd : s.Nodup := hp.nodup_iff.2 (hn.filter p)
  have hr : Rise s := by
    unfold Rise
    have h2 := List.Pairwise.and hs hd
    exact h2.imp (fun h => by omega)
  refine rise_ext hr (filter_rise (upto_rise n)) (fun x => ?_)
  rw [hp.mem_iff, List.mem_filter, List.mem_filter, hm, mem_upto]
end Pth
end Go.Proofs.YtngldlconipnnaaGreatDoor

/- Walks: those that a test picks, in the order and rising; the test is a function value. -/
namespace Go.Proofs.YtngldlconipnnaaGreatDoor
open Go.RowKit Pth

/-- A yes-or-no, and only new memory is written. -/
def BoolB (b : Bool) (w : World) (e : Ending) (w' : World) : Prop := e = .returned (.bool b) ∧ Below w.heap.size w w'
/-- A function value that tells of each number of D whether p holds. -/
def TestV (w0 : World) (fv : Value) (D : Int → Prop) (p : Int → Bool) : Prop :=
  ∃ K cap, fv = .func (.func K) #[] cap ∧ (∀ args w, (callFunc K args).run Tryz.prog w = .ok (.enter K args) w) ∧ ∀ W, Below w0.heap.size w0 W → ∀ x, D x → Calls Tryz.prog K (#[.int .i64 x] ++ cap) W (BoolB (p x) W)
theorem TestV.below {w w' : World} {fv : Value} {D : Int → Prop} {p : Int → Bool} (h : TestV w fv D p) (hb : Below w.heap.size w w') : TestV w' fv D p := by
  obtain ⟨K, cap, h1, h2, h3⟩ := h
  exact ⟨K, cap, h1, h2, fun W hW x hx => h3 W (bth hb hW (Nat.le_refl _)) x hx⟩
theorem filter_yes {l : List Int} {p : Int → Bool} {k : Nat} (hk : k < l.length) (h : p l[k] = true) : (l.take (k + 1)).filter p = (l.take k).filter p ++ [l[k]] := by
  rw [List.take_succ_eq_append_getElem hk, List.filter_append, List.filter_cons, h]; rfl
theorem filter_no {l : List Int} {p : Int → Bool} {k : Nat} (hk : k < l.length) (h : p l[k] = false) : (l.take (k + 1)).filter p = (l.take k).filter p := by
  rw [List.take_succ_eq_append_getElem hk, List.filter_append, List.filter_cons, h]; simp

set_option maxRecDepth 20000 in
set_option maxHeartbeats 4000000 in
theorem ordered_any (ls : List (List Int)) (l : List Int) (p : Int → Bool) (v fv : Value) (w : World) (hst : GraphV w v ls l) (ht : TestV w fv (· ∈ l) p) (h10 : l.length ≤ 1000) :
    Calls Tryz.prog 177 #[v, fv] w (IntsPost w.heap.size (l.filter p) w) := by
  obtain ⟨nv, ov, rfl, h1, h2⟩ := hst
  obtain ⟨an, cn, rfl, hn1, hn2, _⟩ := h1.lists
  obtain ⟨ao, co, rfl, ho1, ho2, hao⟩ := h2.ints
  clear h1 h2
  unfold maxLen at hn2 ho2
  obtain ⟨K, cap, rfl, hent, ht⟩ := ht
  have HT := Lib.hid ht
  have HAO := Lib.hid hao
  clear hao ht
  obtain ⟨wa, hwa⟩ : ∃ wa, wa = w.alloc (.cells #[.slice an ls.length cn, .slice ao l.length co] 26) := ⟨_, rfl⟩
  have HA : Hid (Below w.heap.size w wa) := by rw [hwa]; exact (Below.refl w.heap.size w).alloc (Nat.le_refl _) _
  have HWA := Lib.hid hwa
  clear hwa
  go_enter Tryz.func177, Tryz.ntmps177
  go_wp2_with fail
  rw [← HWA.out]
  go_loopw [5, 11] (fun q i wr => ∃ k : Nat, k ≤ l.length ∧ i = .int .i64 k ∧ Hid (Below w.heap.size w wr) ∧ Hid (wr.ownsRow w.heap.size 3 1 q ((l.take k).filter p).length (I ((l.take k).filter p)))) (fun _ i _ => l.length - (intOf i).toNat)
  case atStart => exact ⟨0, Nat.zero_le _, rfl, HA, none_ownZ _ _ _⟩
  case round =>
    obtain ⟨k, hk, rfl, HB, HN⟩ := hrel
    by_cases hlt : k < l.length
    · obtain ⟨g, o, rfl, hg, hc⟩ := HAO.out k hlt
      have hc1 : wr.cell? ⟨g, o + k, none⟩ = some (.int .i64 l[k]) := by rw [HB.out.cell (p := ⟨g, o + k, none⟩) hg, hc]
      have HC := HT.out wr HB.out l[k] (List.getElem_mem hlt)
      have hfl : ((l.take k).filter p).length ≤ k := by have := List.length_filter_le p (l.take k); rw [List.length_take] at this; omega
      rcases hb : p l[k] with _ | _
      · have HE := Lib.hid (filter_no hlt hb)
        rw [hb] at HC
        have HCC := Lib.hid HC
        obtain ⟨qa, qc, hq⟩ := own_slice HN.out
        subst hq
        clear hc hb HC hfl
        generalize l[k] = x at *
        go_wp2_with fail
        refine HCC.out.mono ?_
        rintro e w2 ⟨rfl, hb2⟩
        have HB2 := Lib.hid (bth HB.out hb2 (Nat.le_refl _))
        have HN2 := Lib.hid (own_below HN.out hb2)
        clear hb2
        go_wp2_with fail
        go_roundw
        case rel => exact ⟨k + 1, by omega, by go_num, HB2, by rw [HE.out]; exact HN2.out⟩
        case measure => simp [intOf]; omega
      · have HE := Lib.hid (filter_yes hlt hb)
        rw [hb] at HC
        have HCC := Lib.hid HC
        have hIl : (I ((l.take k).filter p)).length ≤ 1000000 := by rw [I_len]; omega
        clear hc hb HC hfl
        generalize l[k] = x at *
        generalize (l.take k).filter p = m at *
        go_wp2_with fail
        refine HCC.out.mono ?_
        rintro e w2 ⟨rfl, hb2⟩
        have HB2 := Lib.hid (bth HB.out hb2 (Nat.le_refl _))
        have HNA := Lib.hid (own_Z (own_below HN.out hb2))
        clear hb2 HN
        go_wp2_with (at_builtin; refine wpAppOne elemI rfl _ _ rfl w.heap.size _ (I m) rfl HNA.out _ rfl rfl rfl hIl HB2.out.size ?_; intro v7 w7 hown7 hg7; have HN7 := Lib.hid (own_Z2 hown7); have HB7 := Lib.hid (HB2.out.trans (below_own HNA.out hg7 HB2.out.size)); clear hown7 hg7)
        go_roundw
        case rel => exact ⟨k + 1, by omega, by go_num, HB7, by rw [HE.out]; exact HN7.out⟩
        case measure => simp [intOf]; omega
    · rw [List.take_of_length_le (by omega)] at HN
      obtain ⟨qa, qc, hq⟩ := own_slice HN.out
      subst hq
      go_wp2_with fail
      go_ret
      exact ⟨_, rfl, HN.out, HB.out⟩
end Go.Proofs.YtngldlconipnnaaGreatDoor

/- Walks: risingWhere, areTasks, slices.ContainsFunc at a function value, the test whether a number is among some. -/
namespace Go.Proofs.YtngldlconipnnaaGreatDoor
open Go.RowKit Pth

theorem rising_is {ls : List (List Int)} {l : List Int} (hg : GoodP ls l) (p : Int → Bool) : sortI (l.filter p) = (upto ls.length).filter p :=
  sort_filter hg.nodup (fun _ => hg.all) (sortI_perm _) (sortI_sorted _)

set_option maxRecDepth 20000 in
set_option maxHeartbeats 2000000 in
theorem rising_any (ls : List (List Int)) (l : List Int) (p : Int → Bool) (v fv : Value) (w : World) (hst : GraphV w v ls l) (ht : TestV w fv (· ∈ l) p) (hg : GoodP ls l) :
    Calls Tryz.prog 141 #[v, fv] w (IntsPost w.heap.size ((upto ls.length).filter p) w) := by
  have HV := Lib.hid hst
  have HT := Lib.hid ht
  have HE := Lib.hid (rising_is hg p)
  have h10 : l.length ≤ 10 := by have := hg.same; have := hg.high; omega
  obtain ⟨nv, ov, rfl, h1, h2⟩ := hst
  obtain ⟨an, cn, rfl, hn1, hn2, _⟩ := h1.lists
  obtain ⟨ao, co, rfl, ho1, ho2, _⟩ := h2.ints
  clear h1 h2 ht hg
  unfold maxLen at hn2 ho2
  obtain ⟨wa, hwa⟩ : ∃ wa, wa = w.alloc (.cells #[.slice an ls.length cn, .slice ao l.length co] 26) := ⟨_, rfl⟩
  have P0 : Hid (Blk2 wa w.heap.size 26 (.slice an ls.length cn) (.slice ao l.length co)) := by rw [hwa]; exact Blk2.new
  have HA : Hid (Below w.heap.size w wa) := by rw [hwa]; exact (Below.refl w.heap.size w).alloc (Nat.le_refl _) _
  have HWA := Lib.hid hwa
  have c0 := P0.out.cells.1
  have c1 := P0.out.cells.2
  have HC := Lib.hid (ordered_any ls l p _ fv wa (HV.out.below HA.out) (HT.out.below HA.out) (by omega))
  have hfl : (l.filter p).length ≤ 10 := by have := List.length_filter_le p l; omega
  have HS := Lib.hid (fun u B W ho hB => sortInts_any (l.filter p) u B W ho (by omega) hB)
  clear hwa hfl
  generalize l.filter p = m at *
  go_enter Tryz.func141, Tryz.ntmps141
  go_wp2_with fail
  rw [← HWA.out]
  refine HC.out.mono ?_
  rintro e w1 ⟨v1, rfl, ho1', hb1⟩
  have HB1 := Lib.hid (bth HA.out hb1 (Nat.le_refl _))
  have HO1 := Lib.hid ho1'
  obtain ⟨qa, qc, hq⟩ := own_slice ho1'
  subst hq
  have hs1 := hb1.size
  clear ho1' hb1 c0 c1 HC
  go_wp2_with fail
  refine (HS.out _ wa.heap.size w1 HO1.out hs1).mono ?_
  rintro e w2 ⟨rfl, ho2', hb2⟩
  have HO2 := Lib.hid ho2'
  rw [HE.out] at HO2
  have HB2 := Lib.hid (HB1.out.trans (hb2.mono HA.out.size))
  clear ho2' hb2
  go_wp2_with fail
  go_ret
  exact ⟨_, rfl, own_base HO2.out HA.out.size, HB2.out⟩

set_option maxRecDepth 20000 in
set_option maxHeartbeats 4000000 in
theorem areTasks_any (ls : List (List Int)) (l cs : List Int) (v u : Value) (w : World) (hst : GraphV w v ls l) (hrow : RowV w u (I cs)) :
    Calls Tryz.prog 140 #[v, u] w (BoolB (riseB 0 ((ls.length : Int) - 1) cs) w) := by
  have HV := Lib.hid hst
  obtain ⟨nv, ov, rfl, h1, h2⟩ := hst
  obtain ⟨an, cn, rfl, hn1, hn2, _⟩ := h1.lists
  obtain ⟨ao, co, rfl, ho1, ho2, _⟩ := h2.ints
  obtain ⟨a, cap, rfl, hc1, hc2, hat⟩ := hrow.ints
  clear h1 h2 hrow
  unfold maxLen at hn2 ho2 hc2
  have HAT := Lib.hid hat
  obtain ⟨wa, hwa⟩ : ∃ wa, wa = w.alloc (.cells #[.slice an ls.length cn, .slice ao l.length co] 26) := ⟨_, rfl⟩
  have P0 : Hid (Blk2 wa w.heap.size 26 (.slice an ls.length cn) (.slice ao l.length co)) := by rw [hwa]; exact Blk2.new
  have HA : Hid (Below w.heap.size w wa) := by rw [hwa]; exact (Below.refl w.heap.size w).alloc (Nat.le_refl _) _
  have hsz : w.heap.size < wa.heap.size := by rw [hwa]; simp
  have HWA := Lib.hid hwa
  clear hwa hat
  go_enter Tryz.func140, Tryz.ntmps140
  go_wp2_with fail
  rw [← HWA.out]
  go_loopw [9] (fun i wr => ∃ k : Nat, k ≤ cs.length ∧ i = .int .i64 k ∧ Hid (Rise (cs.take k) ∧ Within 0 ((ls.length : Int) - 1) (cs.take k)) ∧ Hid (Below wa.heap.size wa wr)) (fun i _ => cs.length - (intOf i).toNat)
  case atStart => exact ⟨0, Nat.zero_le _, rfl, by simp [Rise, Hid, Within], Below.refl _ _⟩
  case round =>
    obtain ⟨k, hk, rfl, HO, HB⟩ := hrel
    have HBW := Lib.hid (bth HA.out HB.out (Nat.le_refl _))
    by_cases hlt : k < cs.length
    · obtain ⟨g, o, rfl, hg, hcell0⟩ := HAT.out k hlt
      have hcell : wr.cell? ⟨g, o + k, none⟩ = some (.int .i64 cs[k]) := by rw [HBW.out.cell (p := ⟨g, o + k, none⟩) hg]; exact hcell0
      obtain ⟨d0, d1⟩ := (P0.out.below HB.out hsz).cells
      clear hcell0
      by_cases hr : 0 ≤ cs[k] ∧ cs[k] < (ls.length : Int)
      · have CT := Lib.hid (isTask_b (HV.out.below HBW.out) (show (decide (0 ≤ cs[k]) && decide (cs[k] < (ls.length : Int))) = true by simp [hr]))
        by_cases h0 : 0 < k
        · obtain ⟨g', o', hA, hg', hcell1⟩ := HAT.out (k - 1) (by omega)
          obtain ⟨rfl, rfl⟩ := addr_inj hA
          clear hA
          have hk0 : decide ((k : Int) > 0) = true := by simp; omega
          have HPR : Hid (∀ W, Below wr.heap.size wr W → W.cell? ⟨g, o + (k - 1), none⟩ = some (.int .i64 cs[k - 1])) := fun W hW => by
            rw [(bth HBW.out hW (Nat.le_refl _)).cell (p := ⟨g, o + (k - 1), none⟩) hg']; exact hcell1
          clear hcell1
          by_cases hy : cs[k - 1] < cs[k]
          · have HR : Hid (Rise (cs.take (k + 1)) ∧ Within 0 ((ls.length : Int) - 1) (cs.take (k + 1))) := rise_next hlt HO.out hr.1 (by omega) (fun _ => hy)
            have hy1 : decide (cs[k - 1] ≥ cs[k]) = false := by simp; omega
            clear HO hr hy
            generalize cs[k] = x at *
            generalize cs[k - 1] = y at *
            go_wp2_with fail
            refine CT.out.mono ?_
            rintro e w1 ⟨rfl, hb1⟩
            have HB1 := Lib.hid (bth HB.out hb1 (Nat.le_refl _))
            have hc3 := HPR.out w1 hb1
            clear hb1 d0 d1 hcell
            go_wp2_with fail
            go_roundw
            case rel => exact ⟨k + 1, by omega, by go_num, HR, HB1⟩
            case measure => simp [intOf]; omega
          · have HR : Hid (riseB 0 ((ls.length : Int) - 1) cs = false) := rise_fall hlt h0 (by omega)
            have hy1 : decide (cs[k - 1] ≥ cs[k]) = true := by simp; omega
            clear HO hr hy
            generalize cs[k] = x at *
            generalize cs[k - 1] = y at *
            go_wp2_with fail
            refine CT.out.mono ?_
            rintro e w1 ⟨rfl, hb1⟩
            have HB1 := Lib.hid (bth HBW.out hb1 (Nat.le_refl _))
            have hc3 := HPR.out w1 hb1
            clear hb1 d0 d1 hcell
            go_wp2_with fail
            go_ret
            exact ⟨ret_bool HR.out.symm, HB1.out⟩
        · have HR : Hid (Rise (cs.take (k + 1)) ∧ Within 0 ((ls.length : Int) - 1) (cs.take (k + 1))) := rise_next hlt HO.out hr.1 (by omega) (fun h => absurd h h0)
          have hk0 : decide ((k : Int) > 0) = false := by simp; omega
          clear HO hr
          generalize cs[k] = x at *
          go_wp2_with fail
          refine CT.out.mono ?_
          rintro e w1 ⟨rfl, hb1⟩
          have HB1 := Lib.hid (bth HB.out hb1 (Nat.le_refl _))
          clear hb1 d0 d1 hcell
          go_wp2_with fail
          go_roundw
          case rel => exact ⟨k + 1, by omega, by go_num, HR, HB1⟩
          case measure => simp [intOf]; omega
      · have HR : Hid (riseB 0 ((ls.length : Int) - 1) cs = false) := rise_out hlt (by omega)
        have CT := Lib.hid (isTask_b (HV.out.below HBW.out) (show (decide (0 ≤ cs[k]) && decide (cs[k] < (ls.length : Int))) = false by rw [Bool.eq_false_iff]; intro h; rw [Bool.and_eq_true, decide_eq_true_iff, decide_eq_true_iff] at h; exact hr h))
        clear HO hr
        generalize cs[k] = x at *
        go_wp2_with fail
        refine CT.out.mono ?_
        rintro e w1 ⟨rfl, hb1⟩
        have HB1 := Lib.hid (bth HBW.out hb1 (Nat.le_refl _))
        clear hb1 d0 d1 hcell
        go_wp2_with fail
        go_ret
        exact ⟨ret_bool HR.out.symm, HB1.out⟩
    · have HR : Hid (riseB 0 ((ls.length : Int) - 1) cs = true) := by have := HO.out; rw [List.take_of_length_le (by omega)] at this; exact riseB_iff.2 this
      clear HO
      go_wp2_with fail
      go_ret
      exact ⟨ret_bool HR.out.symm, HBW.out⟩

/-- A place, or a number below 0 where there is none. -/
def PlaceB (b : Bool) (w : World) (e : Ending) (w' : World) : Prop := ∃ i : Int, e = .returned (.int .i64 i) ∧ (0 ≤ i ↔ b = true) ∧ Below w.heap.size w w'

set_option maxRecDepth 20000 in
set_option maxHeartbeats 2000000 in
theorem indexFunc_any (l : List Int) (p : Int → Bool) (D : Int → Prop) (v fv : Value) (w : World) (hrow : RowV w v (I l)) (ht : TestV w fv D p) (hD : ∀ x ∈ l, D x) :
    Calls Tryz.prog 183 #[v, fv] w (PlaceB (l.any p) w) := by
  obtain ⟨a, cap0, rfl, hc1, hc2, hat⟩ := hrow.ints
  obtain ⟨K, cap, rfl, hent, ht⟩ := ht
  have HT := Lib.hid ht
  have HAT := Lib.hid hat
  have HD := Lib.hid hD
  clear hrow hat ht hD
  unfold maxLen at hc2
  go_enter Tryz.func183, Tryz.ntmps183
  go_wp2_with fail
  go_loopw [8] (fun i wr => ∃ k : Nat, k ≤ l.length ∧ i = .int .i64 k ∧ Hid ((l.take k).any p = false) ∧ Hid (Below w.heap.size w wr)) (fun i _ => l.length - (intOf i).toNat)
  case atStart => exact ⟨0, Nat.zero_le _, by go_num, by simp [Hid], Below.refl _ _⟩
  case round =>
    obtain ⟨k, hk, rfl, HO, HB⟩ := hrel
    by_cases hlt : k < l.length
    · obtain ⟨g, o, rfl, hg, hcell0⟩ := HAT.out k hlt
      have hcell : wr.cell? ⟨g, o + k, none⟩ = some (.int .i64 l[k]) := by rw [HB.out.cell (p := ⟨g, o + k, none⟩) hg]; exact hcell0
      have hltz : (k : Int) < (l.length : Int) := by omega
      have HC := HT.out wr HB.out l[k] (HD.out _ (List.getElem_mem hlt))
      clear hcell0
      rcases hb : p l[k] with _ | _
      · have HS : Hid ((l.take (k + 1)).any p = false) := by
          show _ = _
          rw [List.take_succ_eq_append_getElem hlt, List.any_append, HO.out]
          simp [hb]
        rw [hb] at HC
        have HCC := Lib.hid HC
        clear HC hb HO
        generalize l[k] = x at *
        go_wp2_with fail
        refine HCC.out.mono ?_
        rintro e w1 ⟨rfl, hb1⟩
        have HB1 := Lib.hid (bth HB.out hb1 (Nat.le_refl _))
        clear hb1
        go_wp2_with fail
        go_roundw
        case rel => exact ⟨k + 1, by omega, by go_num, HS, HB1⟩
        case measure => simp [intOf]; omega
      · have HS : Hid (l.any p = true) := by
          show _ = _
          rw [List.any_eq_true]
          exact ⟨l[k], List.getElem_mem hlt, hb⟩
        rw [hb] at HC
        have HCC := Lib.hid HC
        clear HC hb HO
        generalize l[k] = x at *
        go_wp2_with fail
        refine HCC.out.mono ?_
        rintro e w1 ⟨rfl, hb1⟩
        have HB1 := Lib.hid (bth HB.out hb1 (Nat.le_refl _))
        clear hb1
        go_wp2_with fail
        go_ret
        exact ⟨(k : Int), rfl, by rw [HS.out]; simp, HB1.out⟩
    · have HS : Hid (l.any p = false) := by
        show _ = _
        have := HO.out
        rwa [List.take_of_length_le (by omega)] at this
      have hltz : ¬ ((k : Int) < (l.length : Int)) := by omega
      clear HO
      go_wp2_with fail
      go_ret
      exact ⟨-1, rfl, by rw [HS.out]; simp, HB.out⟩

set_option maxRecDepth 20000 in
set_option maxHeartbeats 1000000 in
theorem containsFunc_any (l : List Int) (p : Int → Bool) (D : Int → Prop) (v fv : Value) (w : World) (hrow : RowV w v (I l)) (ht : TestV w fv D p) (hD : ∀ x ∈ l, D x) :
    Calls Tryz.prog 150 #[v, fv] w (BoolB (l.any p) w) := by
  have HC := Lib.hid (indexFunc_any l p D v fv w hrow ht hD)
  clear hrow ht hD
  go_enter Tryz.func150, Tryz.ntmps150
  go_wp2_with fail
  refine HC.out.mono ?_
  rintro e w1 ⟨i, rfl, hi, hb⟩
  have HI := Lib.hid hi
  have HB := Lib.hid hb
  clear hi hb HC
  go_wp2_with fail
  go_ret
  refine ⟨?_, HB.out⟩
  show Ending.returned (.bool (decide (0 ≤ i))) = _
  congr 2
  rw [Bool.eq_iff_iff, decide_eq_true_eq]
  exact HI.out

/-- A block of one cell. -/
def Blk1 (w : World) (b t : Nat) (x : Value) : Prop := w.heap[b]? = some (.cells #[x] t (0, 0))
theorem Blk1.cell {w : World} {b t : Nat} {x : Value} (h : Blk1 w b t x) : w.cell? ⟨b, 0, none⟩ = some x := by rw [cell_of_row w b _ _ t (0, 0) h]; rfl
theorem Blk1.below {w w' : World} {B b t : Nat} {x : Value} (h : Blk1 w b t x) (hb : Below B w w') (hlt : b < B) : Blk1 w' b t x := (hb.block b hlt).trans h
theorem Blk1.new {w : World} {t : Nat} {x : Value} : Blk1 (w.alloc (.cells #[x] t)) w.heap.size t x := heap_alloc_new w _

/-- A function value is handed back that tells whether p. -/
def TestPost (D : Int → Prop) (p : Int → Bool) (w : World) (e : Ending) (w' : World) : Prop := ∃ fv, e = .returned fv ∧ TestV w' fv D p ∧ Below w.heap.size w w' ∧ ∃ K b, fv = .func (.func K) #[] #[.pointer (some ⟨b, 0, none⟩)]

end Go.Proofs.YtngldlconipnnaaGreatDoor

/- What is touched, needed, ready, closed, as answers; IsClosed and ReadyWith of the program. -/
namespace Go.Proofs.YtngldlconipnnaaGreatDoor
open Go.RowKit Pth

/-- A good graph, and rising tasks of it. -/
noncomputable def someG (ls : List (List Int)) (l cs : List Int) : Bool := goodG ls l && riseB 0 ((ls.length : Int) - 1) cs
theorem some_eq (ls : List (List Int)) (l cs : List Int) : (goodG ls l && riseB 0 ((ls.length : Int) - 1) cs) = someG ls l cs := rfl
theorem some_eq2 (ls : List (List Int)) (l cs ds : List Int) : (goodG ls l && riseB 0 ((ls.length : Int) - 1) cs && riseB 0 ((ls.length : Int) - 1) ds) = (someG ls l cs && someG ls l ds) := by
  unfold someG
  cases goodG ls l <;> simp
theorem some_yes {ls : List (List Int)} {l cs : List Int} (h : someG ls l cs = true) : GoodG ls l ∧ (Rise cs ∧ ∀ x ∈ cs, 0 ≤ x ∧ x < (ls.length : Int)) := by
  unfold someG at h
  rw [Bool.and_eq_true] at h
  have := riseB_iff.1 h.2
  exact ⟨goodG_iff.1 h.1, this.1, fun x hx => by have := this.2 x hx; omega⟩
theorem some_yes2 {ls : List (List Int)} {l cs ds : List Int} (h : (someG ls l cs && someG ls l ds) = true) : GoodG ls l ∧ (Rise cs ∧ ∀ x ∈ cs, 0 ≤ x ∧ x < (ls.length : Int)) ∧ (Rise ds ∧ ∀ x ∈ ds, 0 ≤ x ∧ x < (ls.length : Int)) := by
  rw [Bool.and_eq_true] at h
  exact ⟨(some_yes h.1).1, (some_yes h.1).2, (some_yes h.2).2⟩
/-- One that is not among some, and all that it needs is. -/
def readyP (ls : List (List Int)) (cs : List Int) (k : Int) : Bool := !hasL cs k && !(needsAt ls k).any (fun x => !hasL cs x)
noncomputable def touchA_v (ls : List (List Int)) (_l cs : List Int) : List Int := touchS ls cs
noncomputable def touchA (ls : List (List Int)) (l cs : List Int) : List Int := if someG ls l cs then touchA_v ls l cs else []
theorem touchA_no {ls : List (List Int)} {l cs : List Int} (h : someG ls l cs = false) : touchA ls l cs = [] := by unfold touchA; rw [h]; rfl
theorem touchA_yes {ls : List (List Int)} {l cs : List Int} (h : someG ls l cs = true) : touchA ls l cs = touchA_v ls l cs := by unfold touchA; rw [h]; rfl
theorem touchA_short (ls : List (List Int)) (l cs : List Int) : (touchA ls l cs).length ≤ 1000000 := by
  rcases h : someG ls l cs with _ | _
  · rw [touchA_no h]; simp
  · rw [touchA_yes h]
    have h1 := (some_yes h).1.high
    exact Nat.le_trans (touchS_len ls cs) (by omega)
noncomputable def needA_v (ls : List (List Int)) (_l cs : List Int) : List Int := needS ls cs
noncomputable def needA (ls : List (List Int)) (l cs : List Int) : List Int := if someG ls l cs then needA_v ls l cs else []
theorem needA_no {ls : List (List Int)} {l cs : List Int} (h : someG ls l cs = false) : needA ls l cs = [] := by unfold needA; rw [h]; rfl
theorem needA_yes {ls : List (List Int)} {l cs : List Int} (h : someG ls l cs = true) : needA ls l cs = needA_v ls l cs := by unfold needA; rw [h]; rfl
theorem needA_short (ls : List (List Int)) (l cs : List Int) : (needA ls l cs).length ≤ 1000000 := by
  rcases h : someG ls l cs with _ | _
  · rw [needA_no h]; simp
  · rw [needA_yes h]
    have h1 := (some_yes h).1.high
    exact Nat.le_trans (needS_len ls cs) (by omega)
noncomputable def readyA_v (ls : List (List Int)) (_l cs : List Int) : List Int := (upto ls.length).filter (readyP ls cs)
noncomputable def readyA (ls : List (List Int)) (l cs : List Int) : List Int := if someG ls l cs then readyA_v ls l cs else []
theorem readyA_no {ls : List (List Int)} {l cs : List Int} (h : someG ls l cs = false) : readyA ls l cs = [] := by unfold readyA; rw [h]; rfl
theorem readyA_yes {ls : List (List Int)} {l cs : List Int} (h : someG ls l cs = true) : readyA ls l cs = readyA_v ls l cs := by unfold readyA; rw [h]; rfl
theorem readyA_short (ls : List (List Int)) (l cs : List Int) : (readyA ls l cs).length ≤ 1000000 := by
  rcases h : someG ls l cs with _ | _
  · rw [readyA_no h]; simp
  · rw [readyA_yes h]
    have h1 := (some_yes h).1.high
    exact Nat.le_trans (Nat.le_trans (List.length_filter_le _ _) (Nat.le_of_eq (upto_len _))) (by omega)
noncomputable def shutA_v (ls : List (List Int)) (_l cs : List Int) : Bool := shutB ls cs
noncomputable def shutA (ls : List (List Int)) (l cs : List Int) : Bool := if someG ls l cs then shutA_v ls l cs else false
theorem shutA_no {ls : List (List Int)} {l cs : List Int} (h : someG ls l cs = false) : shutA ls l cs = false := by unfold shutA; rw [h]; rfl
theorem shutA_yes {ls : List (List Int)} {l cs : List Int} (h : someG ls l cs = true) : shutA ls l cs = shutA_v ls l cs := by unfold shutA; rw [h]; rfl
/-- Two yes-or-noes. -/
def PairOk (p b : Bool) (w : World) (e : Ending) (w' : World) : Prop := e = .returned (.tuple #[.bool p, .bool b]) ∧ Below w.heap.size w w'
theorem shut_yes {ls : List (List Int)} {cs : List Int} (h : Pth.Shut ls cs) : shutB ls cs = true := by unfold shutB; exact @decide_eq_true _ (Classical.propDecidable _) h
theorem shut_no {ls : List (List Int)} {cs : List Int} (h : ¬ Pth.Shut ls cs) : shutB ls cs = false := by unfold shutB; exact @decide_eq_false _ (Classical.propDecidable _) h
theorem any_has {l cs : List Int} : l.any (hasL cs) = true ↔ ∃ x ∈ l, x ∈ cs := by
  rw [List.any_eq_true]
  constructor
  · rintro ⟨x, hx, h⟩; exact ⟨x, hx, by simpa [hasL] using h⟩
  · rintro ⟨x, hx, h⟩; exact ⟨x, hx, by simpa [hasL] using h⟩

end Go.Proofs.YtngldlconipnnaaGreatDoor

/- Walks: tests that leave the world as it was; ReadyWith of the program. -/
namespace Go.Proofs.YtngldlconipnnaaGreatDoor
open Go.RowKit Pth

theorem GraphV.parts {w : World} {a b : Value} {ls : List (List Int)} {l : List Int} (h : GraphV w (.agg #[a, b]) ls l) : RowN w a ls ∧ RowV w b (I l) := by
  obtain ⟨nv, ov, hv, h1, h2⟩ := h
  injection hv with hv
  simp only [Array.mk.injEq, List.cons.injEq, and_true] at hv
  obtain ⟨rfl, rfl⟩ := hv
  exact ⟨h1, h2⟩
/-- A yes-or-no, and the world is as it was. -/
def BoolS (b : Bool) (w : World) (e : Ending) (w' : World) : Prop := e = .returned (.bool b) ∧ w' = w
/-- A function value that tells of each number of D whether p holds, and only reads. -/
def TestS (w0 : World) (fv : Value) (D : Int → Prop) (p : Int → Bool) : Prop :=
  ∃ K cap, fv = .func (.func K) #[] cap ∧ (∀ args w, (callFunc K args).run Tryz.prog w = .ok (.enter K args) w) ∧ ∀ W, Below w0.heap.size w0 W → ∀ x, D x → Calls Tryz.prog K (#[.int .i64 x] ++ cap) W (BoolS (p x) W)
theorem TestS.below {w w' : World} {fv : Value} {D : Int → Prop} {p : Int → Bool} (h : TestS w fv D p) (hb : Below w.heap.size w w') : TestS w' fv D p := by
  obtain ⟨K, cap, h1, h2, h3⟩ := h
  exact ⟨K, cap, h1, h2, fun W hW x hx => h3 W (bth hb hW (Nat.le_refl _)) x hx⟩
theorem TestS.toV {w : World} {fv : Value} {D : Int → Prop} {p : Int → Bool} (h : TestS w fv D p) : TestV w fv D p := by
  obtain ⟨K, cap, h1, h2, h3⟩ := h
  exact ⟨K, cap, h1, h2, fun W hW x hx => (h3 W hW x hx).mono fun e w' ⟨he, hw⟩ => ⟨he, by rw [hw]; exact Below.refl _ _⟩⟩

/-- A place, or a number below 0 where there is none; the world is as it was. -/
def PlaceS (b : Bool) (w : World) (e : Ending) (w' : World) : Prop := ∃ i : Int, e = .returned (.int .i64 i) ∧ (0 ≤ i ↔ b = true) ∧ w' = w

set_option maxRecDepth 20000 in
set_option maxHeartbeats 2000000 in
theorem indexFuncS_any (l : List Int) (p : Int → Bool) (D : Int → Prop) (v fv : Value) (w : World) (hrow : RowV w v (I l)) (ht : TestS w fv D p) (hD : ∀ x ∈ l, D x) :
    Calls Tryz.prog 183 #[v, fv] w (PlaceS (l.any p) w) := by
  obtain ⟨a, cap0, rfl, hc1, hc2, hat⟩ := hrow.ints
  obtain ⟨K, cap, rfl, hent, ht⟩ := ht
  have HT := Lib.hid (fun x hx => ht w (Below.refl _ _) x hx)
  have HAT := Lib.hid hat
  have HD := Lib.hid hD
  clear hrow hat ht hD
  unfold maxLen at hc2
  go_enter Tryz.func183, Tryz.ntmps183
  go_wp2_with fail
  go_loop [8] (fun i => ∃ k : Nat, k ≤ l.length ∧ i = .int .i64 k ∧ Hid ((l.take k).any p = false)) (fun i => l.length - (intOf i).toNat)
  case atStart => exact ⟨0, Nat.zero_le _, by go_num, by simp [Hid]⟩
  case round =>
    obtain ⟨k, hk, rfl, HO⟩ := hrel
    by_cases hlt : k < l.length
    · obtain ⟨g, o, rfl, hg, hcell⟩ := HAT.out k hlt
      have hltz : (k : Int) < (l.length : Int) := by omega
      have HC := HT.out l[k] (HD.out _ (List.getElem_mem hlt))
      rcases hb : p l[k] with _ | _
      · have HS : Hid ((l.take (k + 1)).any p = false) := by
          show _ = _
          rw [List.take_succ_eq_append_getElem hlt, List.any_append, HO.out]
          simp [hb]
        rw [hb] at HC
        have HCC := Lib.hid HC
        clear HC hb HO
        generalize l[k] = x at *
        go_wp2_with fail
        refine HCC.out.mono ?_
        rintro e w1 ⟨rfl, rfl⟩
        go_wp2_with fail
        go_round
        case rel => exact ⟨k + 1, by omega, by go_num, HS⟩
        case measure => simp [intOf]; omega
      · have HS : Hid (l.any p = true) := by
          show _ = _
          rw [List.any_eq_true]
          exact ⟨l[k], List.getElem_mem hlt, hb⟩
        rw [hb] at HC
        have HCC := Lib.hid HC
        clear HC hb HO
        generalize l[k] = x at *
        go_wp2_with fail
        refine HCC.out.mono ?_
        rintro e w1 ⟨rfl, rfl⟩
        go_wp2_with fail
        go_ret
        exact ⟨(k : Int), rfl, by rw [HS.out]; simp, rfl⟩
    · have HS : Hid (l.any p = false) := by
        show _ = _
        have := HO.out
        rwa [List.take_of_length_le (by omega)] at this
      have hltz : ¬ ((k : Int) < (l.length : Int)) := by omega
      clear HO
      go_wp2_with fail
      go_ret
      exact ⟨-1, rfl, by rw [HS.out]; simp, rfl⟩

set_option maxRecDepth 20000 in
set_option maxHeartbeats 1000000 in
theorem containsFuncS_any (l : List Int) (p : Int → Bool) (D : Int → Prop) (v fv : Value) (w : World) (hrow : RowV w v (I l)) (ht : TestS w fv D p) (hD : ∀ x ∈ l, D x) :
    Calls Tryz.prog 150 #[v, fv] w (BoolS (l.any p) w) := by
  have HC := Lib.hid (indexFuncS_any l p D v fv w hrow ht hD)
  clear hrow ht hD
  go_enter Tryz.func150, Tryz.ntmps150
  go_wp2_with fail
  refine HC.out.mono ?_
  rintro e w1 ⟨i, rfl, hi, rfl⟩
  have HI := Lib.hid hi
  clear hi HC
  go_wp2_with fail
  go_ret
  refine ⟨?_, rfl⟩
  show Ending.returned (.bool (decide (0 ≤ i))) = _
  congr 2
  rw [Bool.eq_iff_iff, decide_eq_true_eq]
  exact HI.out

/-- A function value is handed back that tells whether p, and only reads. -/
def TestSPost (D : Int → Prop) (p : Int → Bool) (w : World) (e : Ending) (w' : World) : Prop := ∃ fv, e = .returned fv ∧ TestS w' fv D p ∧ Below w.heap.size w w'

end Go.Proofs.YtngldlconipnnaaGreatDoor

/- Walks: the reference's l6Some, l6Touched, TouchedBy, IsClosed. -/
namespace Go.Proofs.YtngldlconipnnaaGreatDoor
open Go.RowKit Pth

theorem touch1_in {n : Nat} {k : Int} (hk : 0 ≤ k ∧ k < (n : Int)) (nd : List Int) : ∀ {out : List Int}, (∀ x ∈ out, 0 ≤ x ∧ x < (n : Int)) → ∀ x ∈ touch1 k out nd, 0 ≤ x ∧ x < (n : Int) := by
  induction nd with
  | nil => intro out h; exact h
  | cons a b ih =>
    intro o ho
    refine ih (fun x hx0 => ?_)
    have hx : x ∈ (if hasL o a then putL o k else o) := hx0
    split at hx
    · rcases mem_put.1 hx with rfl | hx
      · exact hk
      · exact ho x hx
    · exact ho x hx
theorem short_in {l : List Int} {n : Nat} (hr : Rise l) (h : ∀ x ∈ l, 0 ≤ x ∧ x < (n : Int)) : l.length ≤ n := by
  have := rise_len (lo := 0) (hi := (n : Int) - 1) hr (fun x hx => by have := h x hx; omega) (by omega)
  omega

set_option maxRecDepth 20000 in
set_option maxHeartbeats 2000000 in
theorem l6Some_any (ls : List (List Int)) (l cs : List Int) (v u : Value) (w : World) (hst : GraphV w v ls l) (hrow : RowV w u (I cs)) :
    Calls Tryz.prog 76 #[v, u] w (BoolB (someG ls l cs) w) := by
  have HV := Lib.hid hst
  obtain ⟨nv, ov, rfl, h1, h2⟩ := hst
  obtain ⟨an, cn, rfl, hn1, hn2, hat⟩ := h1.lists
  obtain ⟨ao, co, rfl, ho1, ho2, hao⟩ := h2.ints
  clear h1 h2
  unfold maxLen at hn2 ho2
  have HAT := Lib.hid hat
  have HAO := Lib.hid hao
  clear hat hao
  obtain ⟨wa, hwa⟩ : ∃ wa, wa = w.alloc (.cells #[.slice an ls.length cn, .slice ao l.length co] 26) := ⟨_, rfl⟩
  have P0 : Hid (Blk2 wa w.heap.size 26 (.slice an ls.length cn) (.slice ao l.length co)) := by rw [hwa]; exact Blk2.new
  have HA : Hid (Below w.heap.size w wa) := by rw [hwa]; exact (Below.refl w.heap.size w).alloc (Nat.le_refl _) _
  have hsa : wa.heap.size = w.heap.size + 1 := by rw [hwa]; simp
  have HSA := Lib.hid hsa
  have hsz : w.heap.size < wa.heap.size := by omega
  have HWA := Lib.hid hwa
  obtain ⟨c0, c1⟩ := P0.out.cells
  have HU := Lib.hid hrow
  obtain ⟨ua, uc, rfl, hu1, hu2, _⟩ := hrow.ints
  clear hrow
  unfold maxLen at hu2
  have HC := specGood_any ls l _ wa (HV.out.below HA.out)
  have HE := Lib.hid (some_eq ls l cs)
  clear hwa
  rcases hG : goodG ls l with _ | _
  · rw [hG] at HC HE
    have HE2 : Hid (someG ls l cs = false) := HE.out.symm
    have HCC := Lib.hid HC
    clear HC hG HE
    go_enter Tryz.func76, Tryz.ntmps76
    go_wp2_with fail
    rw [← HWA.out]
    refine HCC.out.mono ?_
    rintro e w1 ⟨rfl, hb1⟩
    have HB1 := Lib.hid (bth HA.out hb1 (Nat.le_refl _))
    clear hb1 c0 c1
    go_wp2_with fail
    go_ret
    exact ⟨ret_bool HE2.out.symm, HB1.out⟩
  · rw [hG] at HC HE
    have HE2 : Hid (someG ls l cs = riseB 0 ((ls.length : Int) - 1) cs) := HE.out.symm
    have HCC := Lib.hid HC
    have hlow := (goodG_iff.1 hG).low
    have hhi := (goodG_iff.1 hG).high
    clear HC hG HE
    have HR := Lib.hid (fun W (h : Below w.heap.size w W) => l1Rising_any cs 0 ((ls.length : Int) - 1) _ W (HU.out.below h))
    generalize riseB 0 ((ls.length : Int) - 1) cs = b at *
    go_enter Tryz.func76, Tryz.ntmps76
    go_wp2_with fail
    rw [← HWA.out]
    refine HCC.out.mono ?_
    rintro e w1 ⟨rfl, hb1⟩
    have HB1 := Lib.hid (bth HA.out hb1 (Nat.le_refl _))
    have d0 := (P0.out.below hb1 hsz).cells.1
    have HR1 := Lib.hid (HR.out w1 HB1.out)
    clear hb1 c0 c1
    go_wp2_with fail
    refine HR1.out.mono ?_
    rintro e w2 ⟨rfl, rfl⟩
    go_wp2_with fail
    go_ret
    exact ⟨ret_bool HE2.out.symm, HB1.out⟩

set_option maxRecDepth 20000 in
set_option maxHeartbeats 8000000 in
theorem l6Touched_any (ls : List (List Int)) (l cs : List Int) (v u : Value) (w : World) (hst : GraphV w v ls l) (hrow : RowV w u (I cs)) (hG : GoodG ls l) (hr : Rise cs) (hc : ∀ x ∈ cs, 0 ≤ x ∧ x < (ls.length : Int)) :
    Calls Tryz.prog 77 #[v, u] w (IntsPost w.heap.size (touchS ls cs) w) := by
  have HIS := Lib.hid (touchL_is hG.toP hr hc)
  have HV := Lib.hid hst
  obtain ⟨nv, ov, rfl, h1, h2⟩ := hst
  obtain ⟨an, cn, rfl, hn1, hn2, hat⟩ := h1.lists
  obtain ⟨ao, co, rfl, ho1, ho2, hao⟩ := h2.ints
  clear h1 h2
  unfold maxLen at hn2 ho2
  have HAT := Lib.hid hat
  have HAO := Lib.hid hao
  clear hat hao
  obtain ⟨wa, hwa⟩ : ∃ wa, wa = w.alloc (.cells #[.slice an ls.length cn, .slice ao l.length co] 26) := ⟨_, rfl⟩
  have P0 : Hid (Blk2 wa w.heap.size 26 (.slice an ls.length cn) (.slice ao l.length co)) := by rw [hwa]; exact Blk2.new
  have HA : Hid (Below w.heap.size w wa) := by rw [hwa]; exact (Below.refl w.heap.size w).alloc (Nat.le_refl _) _
  have hsa : wa.heap.size = w.heap.size + 1 := by rw [hwa]; simp
  have HSA := Lib.hid hsa
  have hsz : w.heap.size < wa.heap.size := by omega
  have HWA := Lib.hid hwa
  have HU := Lib.hid hrow
  obtain ⟨ua, uc, rfl, hu1, hu2, _⟩ := hrow.ints
  clear hrow
  unfold maxLen at hu2
  have h10 := hG.high
  have hlow := hG.low
  have hsm := hG.same
  have HIN := Lib.hid (good_in hG)
  have HGG := Lib.hid hG
  have HSL := Lib.hid hsm
  have hl10 : l.length ≤ 10 := by omega
  have hcl : cs.length ≤ 10 := by have := short_in hr hc; omega
  have HCR := Lib.hid hr
  have HCI := Lib.hid hc
  clear hG hsm hr hc
  obtain ⟨qa, qc, w1, run1, o1, b1⟩ := lit_row cs ua uc wa _ rfl (HU.out.below HA.out) (by omega) 24
  have HRUN := Lib.hid run1
  have HO1 := Lib.hid o1
  have HB1 := Lib.hid b1
  have d0 := (P0.out.below b1 hsz).cells.1
  have d1 := (P0.out.below b1 hsz).cells.2
  clear o1 b1 run1 hwa hsa
  go_enter Tryz.func77, Tryz.ntmps77
  go_upto_region 1 with (fail)
  rw [← HWA.out]
  go_wp2_with (at_builtin; refine wpList_runApp rfl _ _ rfl rfl rfl HRUN.out ?_)
  clear d0 d1
  go_loopw [5, 16] (fun q i wr => ∃ k : Nat, k ≤ l.length ∧ i = .int .i64 (k : Int) ∧ Hid (wr.ownsRow wa.heap.size 3 1 q (touchL ls cs (l.take k)).length (I (touchL ls cs (l.take k)))) ∧ Hid (Below wa.heap.size wa wr)) (fun _ i _ => l.length - (intOf i).toNat)
  case atStart => exact ⟨0, Nat.zero_le _, rfl, HO1, HB1⟩
  case round =>
    clear HO1 HB1
    obtain ⟨k, hk, rfl, HO, HB⟩ := hrel
    by_cases hlt : k < l.length
    · obtain ⟨g, o, hgo, hg, hcell0⟩ := HAO.out k hlt
      subst hgo
      obtain ⟨un, hun⟩ : ∃ un : Nat, l[k] = un := ⟨l[k].toNat, by have := HGG.out.tasks l[k] (List.getElem_mem hlt); omega⟩
      have hul : un < ls.length := by have := HGG.out.tasks l[k] (List.getElem_mem hlt); omega
      have hul2 : (un : Int) < (ls.length : Int) := by omega
      have hcell : wr.cell? ⟨g, o + k, none⟩ = some (.int .i64 (un : Int)) := by rw [(bth HA.out HB.out (Nat.le_refl _)).cell (p := ⟨g, o + k, none⟩) hg, hcell0, hun]
      obtain ⟨d0, d1⟩ := (P0.out.below HB.out hsz).cells
      obtain ⟨g1, o1, a2, c2, hgn, hg1, hcell1, hrow⟩ := HAT.out un hul
      subst hgn
      have hcn : wr.cell? ⟨g1, o1 + un, none⟩ = some (.slice a2 ls[un].length c2) := ((bth HA.out HB.out (Nat.le_refl _)).cell (p := ⟨g1, o1 + un, none⟩) hg1).trans hcell1
      have HRW : Hid (∀ W, Below w.heap.size w W → RowV W (.slice a2 ls[un].length c2) (I ls[un])) := fun W h => hrow.below h
      have hnl : ls[un].length ≤ c2 ∧ c2 ≤ 2 ^ 63 - 1 := by
        obtain ⟨_, _, h, h', h4, _⟩ := hrow.ints
        unfold maxLen at h4
        injection h with _ _ h3; omega
      obtain ⟨hnl, hc2⟩ := hnl
      have HBK : Hid (touchL ls cs (l.take (k + 1)) = touch1 (un : Int) (touchL ls cs (l.take k)) ls[un]) := by
        show _ = _
        rw [List.take_succ_eq_append_getElem hlt, touchL_snoc, hun, needsAt_get hul]
      have HBR : Hid (Rise (touchL ls cs (l.take k)) ∧ ∀ x ∈ touchL ls cs (l.take k), 0 ≤ x ∧ x < (ls.length : Int)) := ⟨touchL_rise _ _ HCR.out, touchL_in ls.length (fun x hx => by have := HGG.out.tasks x (List.mem_of_mem_take hx); omega) HCI.out⟩
      generalize touchL ls cs (l.take k) = bk at *
      obtain ⟨ra, rc, hq⟩ := own_slice HO.out
      subst hq
      clear hcell0 hcell1 hrow hun
      go_wp2_with fail
      clear hcell hcn d0 d1
      go_loopw [5, 26] (fun q i wz => ∃ m : Nat, m ≤ ls[un].length ∧ i = .int .i64 (m : Int) ∧ Hid (wz.ownsRow wa.heap.size 3 1 q (touch1 (un : Int) bk (ls[un].take m)).length (I (touch1 (un : Int) bk (ls[un].take m)))) ∧ Hid (Below wa.heap.size wa wz)) (fun _ i _ => ls[un].length - (intOf i).toNat)
      case atStart => exact ⟨0, Nat.zero_le _, rfl, HO, HB⟩
      case round =>
        clear HO HB
        obtain ⟨m, hm, rfl, HO, HB⟩ := hrel
        by_cases hlt2 : m < ls[un].length
        · obtain ⟨ra, rc, hq⟩ := own_slice HO.out
          subst hq
          obtain ⟨gr, or, hra, hcr⟩ : ∃ gr or, a2 = some ⟨gr, or, none⟩ ∧ wr.cell? ⟨gr, or + m, none⟩ = some (.int .i64 ls[un][m]) := by
            obtain ⟨aa, cc, h, _, _, hc⟩ := (HRW.out wr (bth HA.out HB.out (Nat.le_refl _))).ints
            injection h with h1 _ _
            obtain ⟨gr, or, h2, _, h3⟩ := hc m hlt2
            exact ⟨gr, or, by rw [h1, h2], h3⟩
          subst hra
          have hlo : (touch1 (un : Int) bk (ls[un].take m)).length ≤ 10 := by
            have := short_in (touch1_rise (k := (un : Int)) (ls[un].take m) HBR.out.1) (touch1_in (n := ls.length) ⟨by omega, hul2⟩ _ HBR.out.2)
            omega
          have HE : Hid (touch1 (un : Int) bk (ls[un].take (m + 1)) = if hasL (touch1 (un : Int) bk (ls[un].take m)) ls[un][m] then putL (touch1 (un : Int) bk (ls[un].take m)) un else touch1 (un : Int) bk (ls[un].take m)) := by
            show _ = _
            rw [List.take_succ_eq_append_getElem hlt2, touch1_snoc]
          generalize touch1 (un : Int) bk (ls[un].take m) = bo at *
          generalize ls[un][m] = xm at *
          have HH := l1Has_any bo xm _ wr (RowV.of_own HO.out)
          rcases hh : hasL bo xm with _ | _
          · rw [hh] at HE HH
            have HE2 : Hid (touch1 (un : Int) bk (ls[un].take (m + 1)) = bo) := HE.out
            have HC := Lib.hid HH
            clear HH hh HE
            go_wp2_with fail
            refine HC.out.mono ?_
            rintro e w8 ⟨rfl, rfl⟩
            go_wp2_with fail
            go_roundw
            case rel => exact ⟨m + 1, by omega, by go_num, by rw [HE2.out]; exact HO, HB⟩
            case measure => simp [intOf]; omega
          · rw [hh] at HE HH
            have HE2 : Hid (touch1 (un : Int) bk (ls[un].take (m + 1)) = putL bo un) := HE.out
            have HC := Lib.hid HH
            have HP := Lib.hid (l1Put_any bo un wa.heap.size _ wr HO.out HB.out.size (by omega))
            clear HH hh HE
            go_wp2_with fail
            refine HC.out.mono ?_
            rintro e w8 ⟨rfl, rfl⟩
            go_wp2_with fail
            refine HP.out.mono ?_
            rintro e w9 ⟨v9, rfl, ho9, hb9⟩
            have HO9 := Lib.hid ho9
            have HB9 := Lib.hid (bth HB.out hb9 (Nat.le_refl _))
            clear ho9 hb9
            go_wp2_with fail
            go_roundw
            case rel => exact ⟨m + 1, by omega, by go_num, by rw [HE2.out]; exact HO9, HB9⟩
            case measure => simp [intOf]; omega
        · rw [List.take_of_length_le (by omega), ← HBK.out] at HO
          obtain ⟨ra, rc, hq⟩ := own_slice HO.out
          subst hq
          go_wp2_with fail
          go_roundw
          case rel => exact ⟨k + 1, by omega, by go_num, HO, HB⟩
          case measure => simp [intOf]; omega
    · rw [List.take_of_length_le (by omega), HIS.out] at HO
      obtain ⟨ra, rc, hq⟩ := own_slice HO.out
      subst hq
      go_wp2_with fail
      go_ret
      exact ⟨_, rfl, own_base HO.out (by omega), bth HA.out HB.out (Nat.le_refl _)⟩

end Go.Proofs.YtngldlconipnnaaGreatDoor

/- Walks: what is made anew after a change, of the reference. -/
namespace Go.Proofs.YtngldlconipnnaaGreatDoor
open Go.RowKit Pth

/-- Plans, results, bodies and changed tasks as said. -/
noncomputable def goodC8 (ls : List (List Int)) (l : List Int) (bs : List Bool) (rs : List (List OpT)) (m : List ResT) (ts : List (List UInt8)) (cs : List Int) : Bool := goodA8 ls l bs rs m ts && someG ls l cs
/-- What is made where all that is touched is due. -/
noncomputable def allP (ls : List (List Int)) (l : List Int) (bs : List Bool) (rs : List (List OpT)) (m : List ResT) (ts : List (List UInt8)) (cs : List Int) : List ResT × List Int := passM (oneM ls bs rs ts) (fun _ k => hasL (touchS ls cs) (k : Int)) l (m, [])
noncomputable def allR (ls : List (List Int)) (l : List Int) (bs : List Bool) (rs : List (List OpT)) (m : List ResT) (ts : List (List UInt8)) (cs : List Int) : List ResT := if goodC8 ls l bs rs m ts cs then (allP ls l bs rs m ts cs).1 else []
noncomputable def allN (ls : List (List Int)) (l : List Int) (bs : List Bool) (rs : List (List OpT)) (m : List ResT) (ts : List (List UInt8)) (cs : List Int) : Int := if goodC8 ls l bs rs m ts cs then (runsL bs (allP ls l bs rs m ts cs).2 : Int) else 0
theorem pass_short (one : List ResT → Nat → ResT) (due : List ResT → Nat → Bool) {ls : List (List Int)} {l : List Int} {bs : List Bool} {rs : List (List OpT)} {m : List ResT} {ts : List (List UInt8)} (h : goodA8 ls l bs rs m ts = true) : (passM one due l (m, [])).1.length ≤ 1000000 := by
  obtain ⟨h1, h2, _⟩ := good8_parts h
  have h3 := (plan_parts h1).2.1
  have h4 := (plan_parts h1).1.high
  rw [pass_len]; simp only; omega
theorem all_short (ls : List (List Int)) (l : List Int) (bs : List Bool) (rs : List (List OpT)) (m : List ResT) (ts : List (List UInt8)) (cs : List Int) : (allR ls l bs rs m ts cs).length ≤ 1000000 := by
  unfold allR
  split
  · rename_i h
    unfold goodC8 at h
    rw [Bool.and_eq_true] at h
    exact pass_short _ _ h.1
  · simp
theorem lit_rowR (x : List ResT) (a : Option Addr) (c : Nat) (w W : World) (hW : W = w.alloc (.cells #[] 89)) (hrow : RowR w (.slice a x.length c) x) (hx : x.length ≤ 1000) (hpos : 0 < x.length) (ty : TypeId) :
    ∃ gq qc w1, (Builtin.append_ #[35, 35] ty #[.slice (some ⟨w.heap.size, 0, none⟩) 0 0, .slice a x.length c]).run Tryz.prog W = .ok (.slice (some ⟨gq, 0, none⟩) x.length qc) w1 ∧ w1.ownsRow w.heap.size 89 2 (.slice (some ⟨gq, 0, none⟩) x.length qc) x.length (RC x) ∧ Below w.heap.size w w1 := by
  subst hW
  have hb : Below w.heap.size w (w.alloc (.cells #[] 89)) := (Below.refl _ w).alloc (Nat.le_refl _) _
  obtain ⟨v1, w1, r1, b1, hl⟩ := run_app_lit elemR (w.alloc (.cells #[] 89)) w.heap.size ty x.length (RC x) a c (hrow.below hb) (by omega)
  rcases hl with ⟨h0, _⟩ | ⟨_, ho⟩
  · omega
  · have ho' := own_baseG (B' := w.heap.size) ho (by simp)
    rcases ho.2 with ⟨_, h0⟩ | ⟨g, cap, cur, hv, _⟩
    · omega
    · subst hv
      exact ⟨g, cap, w1, r1, ho', bth hb b1 (Nat.le_refl _)⟩

set_option maxRecDepth 20000 in
set_option maxHeartbeats 8000000 in
theorem specAgainAll_any (ls : List (List Int)) (l : List Int) (bs : List Bool) (rs : List (List OpT)) (m : List ResT) (ts : List (List UInt8)) (cs' : List Int) (v u x z : Value) (w : World) (hp : PlanV w v ls l bs rs) (hr : RowR w u m) (hts : RowV w x (S ts)) (hcs : RowV w z (I cs')) (hx : ∀ l ∈ rs, ∀ f ∈ l, f.2.2.length ≤ maxLen) (hxm0 : ∀ f ∈ m, f.1.length ≤ maxLen) (hxt0 : ∀ x ∈ ts, x.length ≤ maxLen) :
    Calls Tryz.prog 23 #[v, u, x, z] w (ResNOk (allR ls l bs rs m ts cs') (allN ls l bs rs m ts cs') (goodC8 ls l bs rs m ts cs') w) := by
  have HV := Lib.hid hp
  obtain ⟨nv, ov, sv, rv, rfl, h1, h2, h3, h4⟩ := hp
  obtain ⟨as0, cs, rfl, hs1, hs2, hats⟩ := h3.boolsW
  obtain ⟨an, cn, rfl, hn1, hn2, _⟩ := h1.lists
  obtain ⟨ao, co, rfl, ho1, ho2, hato⟩ := h2.ints
  obtain ⟨ar, cr, rfl, hr1, hr2, _⟩ := h4.lists
  clear h1 h2 h3 h4
  have HR := Lib.hid hr
  obtain ⟨am, cm, rfl, hm1, hm2, _⟩ := hr.res
  clear hr
  have HT := Lib.hid hts
  obtain ⟨at0, ct, rfl, ht1, ht2, _⟩ := hts.texts
  clear hts
  unfold maxLen at hs2 hn2 ho2 hr2 hm2 ht2
  have HZ := Lib.hid hcs
  obtain ⟨az, cz, rfl, hz1, hz2, _⟩ := hcs.ints
  clear hcs
  unfold maxLen at hz2
  obtain ⟨wa, hwa⟩ : ∃ wa, wa = w.alloc (.cells #[.slice an ls.length cn, .slice ao l.length co, .slice as0 bs.length cs, .slice ar rs.length cr] 30) := ⟨_, rfl⟩
  have hsz : w.heap.size < wa.heap.size := by rw [hwa]; simp
  have P0 : Hid (Blk4 wa w.heap.size 30 (.slice an ls.length cn) (.slice ao l.length co) (.slice as0 bs.length cs) (.slice ar rs.length cr)) := by rw [hwa]; exact Blk4.new
  have HA : Hid (Below w.heap.size w wa) := by rw [hwa]; exact (Below.refl w.heap.size w).alloc (Nat.le_refl _) _
  have HWA : Hid (w.alloc (.cells #[.slice an ls.length cn, .slice ao l.length co, .slice as0 bs.length cs, .slice ar rs.length cr] 30) = wa) := by rw [hwa]; rfl
  clear hwa
  have HPV : Hid (∀ W, Below w.heap.size w W → PlanV W (.agg #[.slice an ls.length cn, .slice ao l.length co, .slice as0 bs.length cs, .slice ar rs.length cr]) ls l bs rs) := fun W h => HV.out.below h
  have HRV : Hid (∀ W, Below w.heap.size w W → RowR W (.slice am m.length cm) m) := fun W h => HR.out.below h
  have HTV : Hid (∀ W, Below w.heap.size w W → RowV W (.slice at0 ts.length ct) (S ts)) := fun W h => HT.out.below h
  have HGV : Hid (∀ W, Below w.heap.size w W → GraphV W (.agg #[.slice an ls.length cn, .slice ao l.length co]) ls l) := fun W h => by
    obtain ⟨_, _, _, _, he, k1, k2, _, _⟩ := HPV.out W h
    injection he with he
    simp only [Array.mk.injEq, List.cons.injEq, and_true] at he
    obtain ⟨rfl, rfl, _, _⟩ := he
    exact ⟨_, _, rfl, k1, k2⟩
  have HZV : Hid (∀ W, Below w.heap.size w W → RowV W (.slice az cs'.length cz) (I cs')) := fun W h => HZ.out.below h
  obtain ⟨b, hb⟩ : ∃ b, goodA8 ls l bs rs m ts = b := ⟨_, rfl⟩
  obtain ⟨s, hs⟩ : ∃ s, someG ls l cs' = s := ⟨_, rfl⟩
  have HC := Lib.hid (specGood8_b hb _ _ _ wa (HPV.out wa HA.out) (HRV.out wa HA.out) (HTV.out wa HA.out) hx hxm0 hxt0)
  have HSO := Lib.hid (fun W (h : Below w.heap.size w W) => l6Some_any ls l cs' _ _ W (HGV.out W h) (HZV.out W h))
  rw [hs] at HSO
  rcases b with _ | _
  · have hgc : goodC8 ls l bs rs m ts cs' = false := by unfold goodC8; rw [hb]; rfl
    have HE1 : Hid (allR ls l bs rs m ts cs' = []) := by show _ = _; unfold allR; rw [hgc]; rfl
    have HE2 : Hid (allN ls l bs rs m ts cs' = 0) := by show _ = _; unfold allN; rw [hgc]; rfl
    rw [HE1.out, HE2.out, hgc]
    obtain ⟨c0, c1, c2, c3⟩ := P0.out.cells
    clear hb hs hx hxm0 hxt0 hgc HE1 HE2 HSO hats hato
    go_enter Tryz.func23, Tryz.ntmps23
    go_wp2_with fail
    rw [HWA.out]
    refine HC.out.mono ?_
    rintro e w1 ⟨rfl, hb1⟩
    have HW1 := Lib.hid (bth HA.out hb1 (Nat.le_refl _))
    clear hb1 c0 c1 c2 c3 HC
    go_wp2_with fail
    go_ret3
    exact ⟨_, rfl, none_ownR _ _, HW1.out⟩
  rcases s with _ | _
  · have hgc : goodC8 ls l bs rs m ts cs' = false := by unfold goodC8; rw [hb, hs]; rfl
    have HE1 : Hid (allR ls l bs rs m ts cs' = []) := by show _ = _; unfold allR; rw [hgc]; rfl
    have HE2 : Hid (allN ls l bs rs m ts cs' = 0) := by show _ = _; unfold allN; rw [hgc]; rfl
    rw [HE1.out, HE2.out, hgc]
    obtain ⟨c0, c1, c2, c3⟩ := P0.out.cells
    clear hb hs hx hxm0 hxt0 hgc HE1 HE2 hats hato
    go_enter Tryz.func23, Tryz.ntmps23
    go_wp2_with fail
    rw [HWA.out]
    refine HC.out.mono ?_
    rintro e w1 ⟨rfl, hb1⟩
    have HB1 := Lib.hid hb1
    have HW1 := Lib.hid (bth HA.out hb1 (Nat.le_refl _))
    clear hb1 c0 c1 c2 c3 HC
    obtain ⟨c0, c1, c2, c3⟩ := (P0.out.below HB1.out hsz).cells
    go_wp2_with fail
    refine (HSO.out w1 HW1.out).mono ?_
    rintro e w2 ⟨rfl, hb2⟩
    have HW2 := Lib.hid (bth HW1.out hb2 (Nat.le_refl _))
    clear hb2 c0 c1 c2 c3
    go_wp2_with fail
    go_ret3
    exact ⟨_, rfl, none_ownR _ _, HW2.out⟩
  have hg := hb
  have hgc : goodC8 ls l bs rs m ts cs' = true := by unfold goodC8; rw [hb, hs]; rfl
  have hE1 : allR ls l bs rs m ts cs' = (allP ls l bs rs m ts cs').1 := by unfold allR; rw [hgc]; rfl
  have hE2 : allN ls l bs rs m ts cs' = (runsL bs (allP ls l bs rs m ts cs').2 : Int) := by unfold allN; rw [hgc]; rfl
  rw [hE1, hE2, hgc]
  obtain ⟨hpl, hmb, htb, hsm, hst, _, _⟩ := good8_parts hg
  have hG := (plan_parts hpl).1
  have hbl := (plan_parts hpl).2.1
  have hlo := hG.same
  have hhi := hG.high
  have hlw := hG.low
  have hl10 : l.length ≤ 10 := by omega
  have hmpos : 0 < m.length := by omega
  have hm10 : m.length ≤ 10 := by omega
  have hmbs : m.length = bs.length := hmb
  have HON : Hid (∀ W z M (y : Nat), Below w.heap.size w W → RowR W z M → M.length = bs.length → Sml M → y < ls.length → Calls Tryz.prog 79 #[.agg #[.slice an ls.length cn, .slice ao l.length co, .slice as0 bs.length cs, .slice ar rs.length cr], z, .slice at0 ts.length ct, .int .i64 (y : Int)] W fun e w' => e = .returned (resV (oneM ls bs rs ts M y)) ∧ Below W.heap.size W w') := fun W z M y h1 h2 h3 h4 h5 => specOne_any ls l bs rs M ts y _ _ _ W (HPV.out W h1) h2 (HTV.out W h1) hpl h3 htb h5 h4 hst
  obtain ⟨hrise, hrange⟩ := (some_yes hs).2
  have HTO := Lib.hid (fun W (h : Below w.heap.size w W) => l6Touched_any ls l cs' _ _ W (HGV.out W h) (HZV.out W h) (some_yes hs).1 hrise hrange)
  have HIN : Hid (∀ k (hk : k < l.length), 0 ≤ l[k] ∧ l[k] < (ls.length : Int)) := fun k hk => by have := hG.tasks _ (List.getElem_mem hk); omega
  obtain ⟨MK, hMK⟩ : ∃ MK : Nat → List ResT × List Int, MK = fun k => passM (oneM ls bs rs ts) (fun _ k => hasL (touchS ls cs') (k : Int)) (l.take k) (m, []) := ⟨_, rfl⟩
  have HML : Hid (∀ k, (MK k).1.length = bs.length) := fun k => by rw [hMK]; simp only; rw [pass_len]; exact hmb
  have HMS : Hid (∀ k, Sml (MK k).1) := fun k => by rw [hMK]; exact pass_sml _ _ (fun _ _ => oneM_len hst) _ _ hsm
  have HMM : Hid (∀ k, (MK k).2.length ≤ k) := fun k => by rw [hMK]; exact Nat.le_trans (pass_made _ _ _ _) (by rw [List.length_take]; simp; omega)
  have HMN : Hid (∀ k (hk : k < l.length), MK (k + 1) = if (fun _ k => hasL (touchS ls cs') (k : Int)) (MK k).1 l[k].toNat then ((MK k).1.set l[k].toNat (oneM ls bs rs ts (MK k).1 l[k].toNat), (MK k).2 ++ [l[k]]) else MK k) := fun k hk => by rw [hMK]; exact pass_next _ _ hk _
  have HM0 : Hid (MK 0 = (m, [])) := by rw [hMK]; rfl
  have HMZ : Hid (MK l.length = passM (oneM ls bs rs ts) (fun _ k => hasL (touchS ls cs') (k : Int)) l (m, [])) := by rw [hMK]; show _ = _; simp only [List.take_length]
  have hPE : allP ls l bs rs m ts cs' = MK l.length := HMZ.out.symm
  rw [hPE]
  have htl : (touchS ls cs').length ≤ 1000000 := by have := touchA_short ls l cs'; rw [touchA_yes hs] at this; exact this
  obtain ⟨T, hT⟩ : ∃ T, touchS ls cs' = T := ⟨_, rfl⟩
  rw [hT] at HTO HMN htl
  obtain ⟨one, hone⟩ : ∃ one, oneM ls bs rs ts = one := ⟨_, rfl⟩
  rw [hone] at HON HMN
  have HATO := Lib.hid hato
  have HATS := Lib.hid hats
  have HBL := Lib.hid hbl
  have HMB := Lib.hid hmbs
  obtain ⟨c0, c1, c2, c3⟩ := P0.out.cells
  clear hb hs hx hxm0 hxt0 hg hgc hE1 hE2 hpl hmb htb hsm hst hG hbl hlo hhi hlw hMK hPE hT hone hrise hrange hmbs hats hato HMZ
  go_enter Tryz.func23, Tryz.ntmps23
  go_wp2_with fail
  rw [HWA.out]
  refine HC.out.mono ?_
  rintro e w1 ⟨rfl, hb1⟩
  have HB1 := Lib.hid hb1
  have HW1 := Lib.hid (bth HA.out hb1 (Nat.le_refl _))
  clear hb1 c0 c1 c2 c3 HC
  obtain ⟨c0, c1, c2, c3⟩ := (P0.out.below HB1.out hsz).cells
  go_wp2_with fail
  refine (HSO.out w1 HW1.out).mono ?_
  rintro e w2 ⟨rfl, hb2⟩
  have HW2 := Lib.hid (bth HW1.out hb2 (Nat.le_refl _))
  have HB2 := Lib.hid (bth HB1.out hb2 (Nat.le_refl _))
  clear hb2 c0 c1 c2 c3 HSO
  obtain ⟨gq, qc, w3, run3, ho3, hb3⟩ := lit_rowR m am cm w2 _ rfl (HRV.out w2 HW2.out) (by omega) hmpos 35
  have HRUN := Lib.hid run3
  have s2 : wa.heap.size ≤ w2.heap.size := HB2.out.size
  have HN3 := Lib.hid (own_baseG (B' := wa.heap.size) ho3 s2)
  have HB3 := Lib.hid (bth HB2.out hb3 (Nat.le_refl _))
  have HW3 := Lib.hid (bth HW2.out hb3 (Nat.le_refl _))
  have hgq : wa.heap.size ≤ gq := Nat.le_trans s2 (ho3.lt gq rfl).1
  clear run3 ho3 hb3
  obtain ⟨c0, c1, c2, c3⟩ := (P0.out.below HB3.out hsz).cells
  go_upto_region 3 with fail
  go_wp2_with (at_builtin; refine wpList_runApp rfl _ _ rfl rfl rfl HRUN.out ?_)
  refine (HTO.out w3 HW3.out).mono ?_
  rintro e w4 ⟨v4, rfl, ho4, hb4⟩
  have HB4 := Lib.hid (bth HB3.out hb4 (Nat.le_refl _))
  have HN4 := Lib.hid (own_belowG HN3.out hb4)
  have HT4 := Lib.hid (RowV.of_own ho4)
  obtain ⟨ta, tc, rfl⟩ := own_slice ho4
  have HTW : Hid (∀ W, Below w4.heap.size w4 W → RowV W (.slice ta T.length tc) (I T)) := fun W h => HT4.out.below h
  have hT4 : ∀ k, (Value.slice ta T.length tc).ownBlock = some k → w3.heap.size ≤ k := fun k hk => (ho4.lt k hk).1
  have HO4 := Lib.hid ho4
  have hgw3 : gq < w3.heap.size := (HN3.out.lt gq rfl).2
  clear hb4 ho4 c0 c1 c2 c3 HRUN HTO
  obtain ⟨c0, c1, c2, c3⟩ := (P0.out.below HB4.out hsz).cells
  go_wp2_with fail
  clear c0 c1 c2 c3
  go_loopw [13, 39] (fun q i wr => ∃ k : Nat, k ≤ l.length ∧ i = .int .i64 k ∧ q = .int .i64 (runsL bs (MK k).2 : Int) ∧ Hid (Below wa.heap.size wa wr) ∧ Hid (wr.ownsRow wa.heap.size 89 2 (.slice (some ⟨gq, 0, none⟩) m.length qc) m.length (RC (MK k).1)) ∧ Hid (wr.ownsRow w3.heap.size 3 1 (.slice ta T.length tc) T.length (I T))) (fun _ i _ => l.length - (intOf i).toNat)
  case atStart => exact ⟨0, Nat.zero_le _, rfl, by rw [HM0.out]; rfl, HB4, by rw [HM0.out]; exact HN4, HO4⟩
  case round =>
    clear HN4
    obtain ⟨k, hk, rfl, rfl, HB, HN, HO⟩ := hrel
    have HBW := Lib.hid (bth HA.out HB.out (Nat.le_refl _))
    by_cases hlt : k < l.length
    · obtain ⟨go, oo, rfl, hgo, hcell0⟩ := HATO.out k hlt
      have hcell := (HBW.out.cell (p := ⟨go, oo + k, none⟩) hgo).trans hcell0
      obtain ⟨hx0, hx1⟩ := HIN.out k hlt
      have hnext := HMN.out k hlt
      obtain ⟨y, hy⟩ : ∃ y : Nat, l[k] = y := ⟨(l[k]).toNat, by omega⟩
      have hyl : y < ls.length := by omega
      have hyb : y < bs.length := by have := HBL.out; omega
      have hmk := HML.out k
      have hms := HMS.out k
      have hmm := HMM.out k
      have hym : y < (MK k).1.length := by omega
      rw [hy, Int.toNat_natCast] at hnext
      rw [hy] at hcell
      have hmn : (MK k).1.length = m.length := by have := HMB.out; omega
      have HHAS := Lib.hid (l1Has_any T (y : Int) _ wr (RowV.of_own HO.out))
      have HOK := Lib.hid (fun W (h : Below wr.heap.size wr W) => HON.out W _ (MK k).1 y (bth HBW.out h (Nat.le_refl _)) (RowR.of_ownL (own_belowG HN.out h) hmn) hmk hms hyl)
      obtain ⟨gs, os, rfl, hgs, hcs2⟩ := HATS.out y hyb
      have HSC : Hid (∀ W, Below wr.heap.size wr W → W.cell? ⟨gs, os + y, none⟩ = some (.bool bs[y])) := fun W h => ((bth HBW.out h (Nat.le_refl _)).cell (p := ⟨gs, os + y, none⟩) hgs).trans hcs2
      have hsrc := getD_at false hyb
      have hrun := runs_app bs (MK k).2 (y : Int)
      rw [Int.toNat_natCast, hsrc] at hrun
      have hle : runsL bs (MK k).2 ≤ 10 := Nat.le_trans (runs_le _ _) (by omega)
      have HNX := Lib.hid hnext
      have HRA := Lib.hid hrun
      have hyz : (y : Int) < (m.length : Int) := by omega
      have hyz2 : (y : Int) < (bs.length : Int) := by omega
      clear hcell0 hx0 hx1 hy HATO HATS HIN HMN hnext HON hcs2 hsrc hrun
      generalize MK k = P at *
      obtain ⟨M, D⟩ := P
      simp only at *
      obtain ⟨d, hd⟩ : ∃ d, hasL T (y : Int) = d := ⟨_, rfl⟩
      rw [hd] at HHAS HNX
      generalize one M y = R at *
      obtain ⟨r1, r2⟩ := R
      generalize hr0 : runsL bs D = r at *
      have HRR := Lib.hid hr0
      clear hr0
      generalize bs[y] = sb at *
      unfold resV at HOK
      simp only at HOK
      obtain ⟨c0, c1, c2, c3⟩ := (P0.out.below HB.out hsz).cells
      go_wp2_with fail
      refine HHAS.out.mono ?_
      rintro e w5 ⟨rfl, hw5⟩
      have hb5 : Below wr.heap.size wr w5 := by rw [← hw5]; exact Below.refl _ _
      clear hw5
      have HB5 := Lib.hid (bth HB.out hb5 (Nat.le_refl _))
      have HN5 := Lib.hid (own_belowG HN.out hb5)
      have HO5 := Lib.hid (own_below HO.out hb5)
      have K5 := Lib.hid hb5
      clear hb5 c0 c1 c2 c3 HHAS hcell
      rcases d with _ | _
      · have HE : Hid (MK (k + 1) = (M, D)) := by have := HNX.out; simpa [Hid] using this
        clear HNX HOK HRA
        go_wp2_with fail
        go_roundw
        case rel => exact ⟨k + 1, by omega, by go_num, by rw [HE.out]; show _ = Value.int _ (runsL bs D : Int); rw [HRR.out], HB5, by rw [HE.out]; exact HN5, HO5⟩
        case measure => simp [intOf]; omega
      · have HE : Hid (MK (k + 1) = (M.set y (r1, r2), D ++ [(y : Int)])) := by have := HNX.out; simpa [Hid] using this
        have HCK := Lib.hid (HOK.out w5 K5.out)
        clear HNX HOK
        obtain ⟨c0, c1, c2, c3⟩ := (P0.out.below HB5.out hsz).cells
        go_wp2_with fail
        refine HCK.out.mono ?_
        rintro e w8 ⟨rfl, hb8⟩
        have hyM : y < M.length := by omega
        have HN8 := Lib.hid (own_belowG HN5.out hb8)
        have HO8 := Lib.hid (own_below HO5.out hb8)
        have HB8 := Lib.hid (bth HB5.out hb8 (Nat.le_refl _))
        have K8 := Lib.hid (bth K5.out hb8 (Nat.le_refl _))
        obtain ⟨d0, d1, f0, f1⟩ := own_atR HN8.out hmn hyM
        have hst := own_setR HN8.out hyM (r1, r2)
        obtain ⟨w9, hw9⟩ : ∃ w9, w9 = (w8.setCell ⟨gq, y * 2, none⟩ (.string ⟨r1.toArray⟩)).setCell ⟨gq, y * 2 + 1, none⟩ (.int .i64 r2) := ⟨_, rfl⟩
        rw [← hw9] at hst
        have HN9 := Lib.hid hst.1
        have HO9 := Lib.hid (own_apartG HO8.out (show w8.grownBy w9 (Value.slice (some ⟨gq, 0, none⟩) m.length qc).ownBlock from hst.2) (own_typesG HN8.out HO8.out (by decide)))
        have HB9 := Lib.hid (HB8.out.trans (only_below hst.2 hgq HB8.out.size))
        have HW9 := Lib.hid hw9
        have hgsw : gs < w.heap.size := hgs
        have hsc9 : w9.cell? ⟨gs, os + y, none⟩ = some (.bool sb) := by
          rw [hw9, set_ne _ _ (by omega), set_ne _ _ (by omega)]
          exact HSC.out w8 K8.out
        clear hst hw9 hb8 c0 c1 c2 c3 HCK
        obtain ⟨c0, c1, c2, c3⟩ := (P0.out.below HB9.out hsz).cells
        go_upto_region 11 with fail
        rw [← HW9.out]
        clear d0 d1 f0 f1 HW9
        have hs1 : IntKind.i64.wrap ((r : Int) + 1) = (r : Int) + 1 := by rw [IntKind.wrap_i64]; omega
        rcases sb with _ | _
        · have HR2 : Hid (runsL bs (D ++ [(y : Int)]) = r + 1) := by have := HRA.out; simpa [Hid] using this
          clear HRA HSC
          go_wp2_with fail
          go_roundw
          case rel => exact ⟨k + 1, by omega, by go_num, by rw [HE.out]; show _ = Value.int _ (runsL bs (D ++ [(y : Int)]) : Int); rw [HR2.out]; go_num, HB9, by rw [HE.out]; exact HN9, HO9⟩
          case measure => simp [intOf]; omega
        · have HR2 : Hid (runsL bs (D ++ [(y : Int)]) = r) := by have := HRA.out; simpa [Hid] using this
          clear HRA HSC
          go_wp2_with fail
          go_roundw
          case rel => exact ⟨k + 1, by omega, by go_num, by rw [HE.out]; show _ = Value.int _ (runsL bs (D ++ [(y : Int)]) : Int); rw [HR2.out], HB9, by rw [HE.out]; exact HN9, HO9⟩
          case measure => simp [intOf]; omega
    · obtain rfl : k = l.length := by omega
      have hmn : (MK l.length).1.length = m.length := by have := HML.out l.length; have := HMB.out; omega
      have HMNL := Lib.hid hmn
      clear HATO HATS HIN HMN HON hmn
      go_wp2_with fail
      go_ret3
      exact ⟨_, rfl, by rw [HMNL.out]; exact own_baseG HN.out HA.out.size, HBW.out⟩

end Go.Proofs.YtngldlconipnnaaGreatDoor
