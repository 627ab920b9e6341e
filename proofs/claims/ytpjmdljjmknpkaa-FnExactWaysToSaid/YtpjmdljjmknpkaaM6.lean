/- Texts of one claim, joined in their order. -/
import Derived.Test.YtpjmdljjmknpkaaM3
import Derived.Test.YtpjmdljjmknpkaaM5

/- Plain mathematics of what a change touches: what leads to some tasks and what they lead to; no program. -/
namespace Go.Proofs.Ytpjmdljjmknpkaa
namespace Pth

/-- What leads to one of some by needs. -/
inductive Up (ls : List (List Int)) (P : Int → Prop) : Int → Prop
  | base {k : Int} : P k → Up ls P k
  | step {k x : Int} : 0 ≤ k → x ∈ needsAt ls k → Up ls P x → Up ls P k
/-- What some lead to by needs. -/
inductive Dn (ls : List (List Int)) (P : Int → Prop) : Int → Prop
  | base {k : Int} : P k → Dn ls P k
  | step {k u : Int} : 0 ≤ u → k ∈ needsAt ls u → Dn ls P u → Dn ls P k

theorem needs_in {ls : List (List Int)} {k x : Int} (h0 : 0 ≤ k) (h : x ∈ needsAt ls k) : k < (ls.length : Int) := by
  unfold needsAt at h
  rcases Nat.lt_or_ge k.toNat ls.length with h1 | h1
  · omega
  · rw [List.getD_eq_getElem?_getD, List.getElem?_eq_none h1] at h
    simp at h
theorem Up.mono {ls : List (List Int)} {P Q : Int → Prop} (h : ∀ x, P x → Q x) {k : Int} (hk : Up ls P k) : Up ls Q k := by
  induction hk with
  | base hp => exact .base (h _ hp)
  | step h0 hx _ ih => exact .step h0 hx ih
theorem Up.twice {ls : List (List Int)} {P Q : Int → Prop} (h : ∀ x, P x → Up ls Q x) {k : Int} (hk : Up ls P k) : Up ls Q k := by
  induction hk with
  | base hp => exact h _ hp
  | step h0 hx _ ih => exact .step h0 hx ih
theorem Dn.twice {ls : List (List Int)} {P Q : Int → Prop} (h : ∀ x, P x → Dn ls Q x) {k : Int} (hk : Dn ls P k) : Dn ls Q k := by
  induction hk with
  | base hp => exact h _ hp
  | step h0 hx _ ih => exact .step h0 hx ih
theorem Dn.mono {ls : List (List Int)} {P Q : Int → Prop} (h : ∀ x, P x → Q x) {k : Int} (hk : Dn ls P k) : Dn ls Q k := hk.twice (fun x hx => .base (h x hx))
theorem Up.none {ls : List (List Int)} {k : Int} : ¬ Up ls (fun _ => False) k := by
  intro h
  induction h with
  | base h => exact h
  | step _ _ _ ih => exact ih
theorem Dn.none {ls : List (List Int)} {k : Int} : ¬ Dn ls (fun _ => False) k := by
  intro h
  induction h with
  | base h => exact h
  | step _ _ _ ih => exact ih

theorem GoodP.needs_take {ls : List (List Int)} {l : List Int} (h : GoodP ls l) {k : Nat} (hk : k < l.length) {x : Int} (hx : x ∈ needsAt ls l[k]) : x ∈ l.take k := by
  obtain ⟨t, ht, he, _, _, h2⟩ := h.each k hk
  rw [he, needsAt_get ht] at hx
  exact h2 x hx
theorem GoodP.all {ls : List (List Int)} {l : List Int} (h : GoodP ls l) {k : Int} : k ∈ l ↔ 0 ≤ k ∧ k < (ls.length : Int) :=
  ⟨h.range k, fun hk => all_there h.same h.nodup h.range hk⟩
theorem GoodP.self {ls : List (List Int)} {l : List Int} (h : GoodP ls l) {k : Nat} (hk : k < l.length) : l[k] ∉ needsAt ls l[k] := fun hx => nodup_at h.nodup hk (h.needs_take hk hx)
theorem Up.range {ls : List (List Int)} {P : Int → Prop} (hp : ∀ x, P x → 0 ≤ x ∧ x < (ls.length : Int)) {k : Int} (h : Up ls P k) : 0 ≤ k ∧ k < (ls.length : Int) := by
  cases h with
  | base h => exact hp _ h
  | step h0 hx _ => exact ⟨h0, needs_in h0 hx⟩
theorem Dn.range {ls : List (List Int)} {l : List Int} (hg : GoodP ls l) {P : Int → Prop} (hp : ∀ x, P x → 0 ≤ x ∧ x < (ls.length : Int)) {k : Int} (h : Dn ls P k) : 0 ≤ k ∧ k < (ls.length : Int) := by
  cases h with
  | base h => exact hp _ h
  | step h0 hx _ =>
    rename_i u hu
    have hul := hg.all.2 ⟨h0, needs_in h0 hx⟩
    obtain ⟨i, hi, rfl⟩ := List.getElem_of_mem hul
    exact hg.range _ (List.mem_of_mem_take (hg.needs_take hi hx))

/-- Along the order: one is marked where one that it needs is. -/
theorem up_along {ls : List (List Int)} {l : List Int} (hg : GoodP ls l) {P : Int → Prop} {S : Nat → Int → Prop} (h0 : ∀ y ∈ l, S 0 y ↔ P y)
    (hs : ∀ k (hk : k < l.length), ∀ y ∈ l, (S (k + 1) y ↔ S k y ∨ (y = l[k] ∧ ∃ x ∈ needsAt ls l[k], S k x))) :
    ∀ k, k ≤ l.length → ∀ y ∈ l, (S k y ↔ P y ∨ (y ∈ l.take k ∧ Up ls P y)) := by
  intro k
  induction k with
  | zero => intro _ y hy; rw [h0 y hy]; simp
  | succ k ih =>
    intro hk y hy
    have hk' : k < l.length := by omega
    rw [hs k hk' y hy, ih (by omega) y hy]
    have hu0 := (hg.range l[k] (List.getElem_mem hk')).1
    constructor
    · rintro ((h | ⟨h1, h2⟩) | ⟨rfl, x, hx, hxs⟩)
      · exact .inl h
      · exact .inr ⟨List.mem_of_mem_take (i := k) (by rw [List.take_take, Nat.min_eq_left (by omega)]; exact h1), h2⟩
      · have hxl := hg.needs_take hk' hx
        refine .inr ⟨by rw [List.take_succ_eq_append_getElem hk']; exact List.mem_append.2 (.inr (List.mem_singleton.2 rfl)), ?_⟩
        rcases (ih (by omega) x (List.mem_of_mem_take hxl)).1 hxs with h | ⟨_, h⟩
        · exact .step hu0 hx (.base h)
        · exact .step hu0 hx h
    · rintro (h | ⟨h1, h2⟩)
      · exact .inl (.inl h)
      · rw [List.take_succ_eq_append_getElem hk', List.mem_append, List.mem_singleton] at h1
        rcases h1 with h1 | rfl
        · exact .inl (.inr ⟨h1, h2⟩)
        · cases h2 with
          | base h => exact .inl (.inl h)
          | @step _ x _ hx hux =>
            have hxl := hg.needs_take hk' hx
            exact .inr ⟨rfl, x, hx, (ih (by omega) x (List.mem_of_mem_take hxl)).2 (.inr ⟨hxl, hux⟩)⟩
theorem up_whole {ls : List (List Int)} {l : List Int} (hg : GoodP ls l) {P : Int → Prop} {S : Nat → Int → Prop} (h0 : ∀ y ∈ l, S 0 y ↔ P y)
    (hs : ∀ k (hk : k < l.length), ∀ y ∈ l, (S (k + 1) y ↔ S k y ∨ (y = l[k] ∧ ∃ x ∈ needsAt ls l[k], S k x))) :
    ∀ y ∈ l, (S l.length y ↔ Up ls P y) := by
  intro y hy
  rw [up_along hg h0 hs l.length (Nat.le_refl _) y hy, List.take_length]
  constructor
  · rintro (h | ⟨_, h⟩)
    · exact .base h
    · exact h
  · exact fun h => .inr ⟨hy, h⟩

/-- Against the order: what one needs that is marked is marked. -/
theorem dn_along {ls : List (List Int)} {l : List Int} (hg : GoodP ls l) {P : Int → Prop} {S : Nat → Int → Prop} (h0 : ∀ y ∈ l, S 0 y ↔ P y)
    (hs : ∀ k (hk : k < l.length), ∀ y ∈ l, (S (l.length - k) y ↔ S (l.length - (k + 1)) y ∨ (S (l.length - (k + 1)) l[k] ∧ y ∈ needsAt ls l[k]))) :
    ∀ j, j ≤ l.length → ∀ y ∈ l, (S j y ↔ P y ∨ ∃ i, ∃ hi : i < l.length, l.length - j ≤ i ∧ Dn ls P l[i] ∧ y ∈ needsAt ls l[i]) := by
  intro j
  induction j with
  | zero =>
    intro _ y hy
    rw [h0 y hy]
    constructor
    · exact .inl
    · rintro (h | ⟨i, hi, h, _⟩)
      · exact h
      · omega
  | succ j ih =>
    intro hj y hy
    have hk : l.length - (j + 1) < l.length := by omega
    have hst := hs (l.length - (j + 1)) hk y hy
    rw [show l.length - (l.length - (j + 1)) = j + 1 by omega, show l.length - (l.length - (j + 1) + 1) = j by omega] at hst
    have hul := List.getElem_mem hk
    have hu0 := (hg.range _ hul).1
    have hU : S j l[l.length - (j + 1)] ↔ Dn ls P l[l.length - (j + 1)] := by
      rw [ih (by omega) _ hul]
      constructor
      · rintro (h | ⟨i, hi, _, h, hm⟩)
        · exact .base h
        · exact .step (hg.range _ (List.getElem_mem hi)).1 hm h
      · intro h
        cases h with
        | base h => exact .inl h
        | step hv0 hm hv =>
          rename_i v
          obtain ⟨i, hi, rfl⟩ := List.getElem_of_mem (hg.all.2 ⟨hv0, needs_in hv0 hm⟩)
          have h1 := (mem_take_pos.1 (hg.needs_take hi hm)).2
          rw [pos_nodup hg.nodup hk] at h1
          exact .inr ⟨i, hi, by omega, hv, hm⟩
    rw [hst, ih (by omega) y hy, hU]
    constructor
    · rintro ((h | ⟨i, hi, h1, h2, h3⟩) | ⟨h1, h2⟩)
      · exact .inl h
      · exact .inr ⟨i, hi, by omega, h2, h3⟩
      · exact .inr ⟨_, hk, Nat.le_refl _, h1, h2⟩
    · rintro (h | ⟨i, hi, h1, h2, h3⟩)
      · exact .inl (.inl h)
      · rcases Nat.lt_or_ge i (l.length - j) with h4 | h4
        · obtain rfl : i = l.length - (j + 1) := by omega
          exact .inr ⟨h2, h3⟩
        · exact .inl (.inr ⟨i, hi, h4, h2, h3⟩)
theorem dn_whole {ls : List (List Int)} {l : List Int} (hg : GoodP ls l) {P : Int → Prop} {S : Nat → Int → Prop} (h0 : ∀ y ∈ l, S 0 y ↔ P y)
    (hs : ∀ k (hk : k < l.length), ∀ y ∈ l, (S (l.length - k) y ↔ S (l.length - (k + 1)) y ∨ (S (l.length - (k + 1)) l[k] ∧ y ∈ needsAt ls l[k]))) :
    ∀ y ∈ l, (S l.length y ↔ Dn ls P y) := by
  intro y hy
  rw [dn_along hg h0 hs l.length (Nat.le_refl _) y hy]
  constructor
  · rintro (h | ⟨i, hi, _, h, hm⟩)
    · exact .base h
    · exact .step (hg.range _ (List.getElem_mem hi)).1 hm h
  · intro h
    cases h with
    | base h => exact .inl h
    | step hv0 hm hv =>
      obtain ⟨i, hi, rfl⟩ := List.getElem_of_mem (hg.all.2 ⟨hv0, needs_in hv0 hm⟩)
      exact .inr ⟨i, hi, by omega, hv, hm⟩

/-- The reference's list, one task's needs seen. -/
def touch1 (k : Int) (out nd : List Int) : List Int := nd.foldl (fun o x => if hasL o x then putL o k else o) out
def touchL (ls : List (List Int)) (out st : List Int) : List Int := st.foldl (fun o k => touch1 k o (needsAt ls k)) out
theorem touch1_mem {k : Int} {nd : List Int} (hk : k ∉ nd) : ∀ {out : List Int} {y : Int}, y ∈ touch1 k out nd ↔ y ∈ out ∨ (y = k ∧ ∃ x ∈ nd, x ∈ out) := by
  induction nd with
  | nil => intro out y; simp [touch1]
  | cons z r ih =>
    intro out y
    rw [List.mem_cons, not_or] at hk
    show y ∈ touch1 k (if hasL out z then putL out k else out) r ↔ _
    rw [ih hk.2]
    by_cases hz : z ∈ out
    · have : hasL out z = true := by simp [hasL, hz]
      rw [this, if_pos rfl, mem_put]
      constructor
      · rintro ((h | h) | ⟨h1, x, hx, h2⟩)
        · exact .inr ⟨h, z, by simp, hz⟩
        · exact .inl h
        · exact .inr ⟨h1, z, by simp, hz⟩
      · rintro (h | ⟨h1, _⟩)
        · exact .inl (.inr h)
        · exact .inl (.inl h1)
    · have : hasL out z = false := by simp [hasL, hz]
      rw [this, if_neg (by simp)]
      constructor
      · rintro (h | ⟨h1, x, hx, h2⟩)
        · exact .inl h
        · exact .inr ⟨h1, x, by simp [hx], h2⟩
      · rintro (h | ⟨h1, x, hx, h2⟩)
        · exact .inl h
        · rw [List.mem_cons] at hx
          rcases hx with rfl | hx
          · exact absurd h2 hz
          · exact .inr ⟨h1, x, hx, h2⟩
theorem touch1_rise {k : Int} (nd : List Int) : ∀ {out : List Int}, Rise out → Rise (touch1 k out nd) := by
  induction nd with
  | nil => intro out h; exact h
  | cons z r ih =>
    intro out h
    show Rise (touch1 k (if hasL out z then putL out k else out) r)
    apply ih
    split
    · exact put_rise h
    · exact h
theorem touch1_snoc (k : Int) (out nd : List Int) (x : Int) : touch1 k out (nd ++ [x]) = if hasL (touch1 k out nd) x then putL (touch1 k out nd) k else touch1 k out nd := by
  unfold touch1; rw [List.foldl_append]; rfl
theorem touchL_snoc (ls : List (List Int)) (out st : List Int) (k : Int) : touchL ls out (st ++ [k]) = touch1 k (touchL ls out st) (needsAt ls k) := by
  unfold touchL; rw [List.foldl_append]; rfl
theorem touchL_rise (ls : List (List Int)) (st : List Int) : ∀ {out : List Int}, Rise out → Rise (touchL ls out st) := by
  induction st with
  | nil => intro out h; exact h
  | cons z r ih => intro out h; exact ih (touch1_rise _ h)
theorem touchL_mem {ls : List (List Int)} {l : List Int} (hg : GoodP ls l) {cs : List Int} : ∀ y ∈ l, (y ∈ touchL ls cs l ↔ Up ls (· ∈ cs) y) := by
  have := up_whole hg (P := (· ∈ cs)) (S := fun k y => y ∈ touchL ls cs (l.take k)) (fun y _ => by simp [touchL]) (fun k hk y _ => by
    show y ∈ touchL ls cs (l.take (k + 1)) ↔ _
    rw [List.take_succ_eq_append_getElem hk, touchL_snoc, touch1_mem (hg.self hk)])
  simpa using this
theorem touchL_in {ls : List (List Int)} (n : Nat) {st : List Int} (hst : ∀ x ∈ st, 0 ≤ x ∧ x < (n : Int)) : ∀ {out : List Int}, (∀ x ∈ out, 0 ≤ x ∧ x < (n : Int)) → ∀ x ∈ touchL ls out st, 0 ≤ x ∧ x < (n : Int) := by
  induction st with
  | nil => intro out h; exact h
  | cons z r ih =>
    intro out h
    refine ih (fun x hx => hst x (by simp [hx])) (fun x hx => ?_)
    have hx' : x ∈ touch1 z out (needsAt ls z) := hx
    have key : ∀ (nd o : List Int), (∀ x ∈ o, 0 ≤ x ∧ x < (n : Int)) → ∀ x ∈ touch1 z o nd, 0 ≤ x ∧ x < (n : Int) := by
      intro nd
      induction nd with
      | nil => intro o h; exact h
      | cons a b ihb =>
        intro o ho
        refine ihb _ (fun x hx0 => ?_)
        have hx : x ∈ (if hasL o a then putL o z else o) := hx0
        split at hx
        · rcases mem_put.1 hx with rfl | hx
          · exact hst _ (by simp)
          · exact ho x hx
        · exact ho x hx
    exact key _ _ h x hx'

open Classical in
/-- What leads to one of some, rising. -/
noncomputable def touchS (ls : List (List Int)) (cs : List Int) : List Int := (upto ls.length).filter (fun y => decide (Up ls (· ∈ cs) y))
open Classical in
/-- What some lead to, rising. -/
noncomputable def needS (ls : List (List Int)) (cs : List Int) : List Int := (upto ls.length).filter (fun y => decide (Dn ls (· ∈ cs) y))
theorem mem_touchS {ls : List (List Int)} {cs : List Int} {y : Int} : y ∈ touchS ls cs ↔ (0 ≤ y ∧ y < (ls.length : Int)) ∧ Up ls (· ∈ cs) y := by
  unfold touchS; rw [List.mem_filter, mem_upto, @decide_eq_true_iff _ (Classical.propDecidable _)]
theorem mem_needS {ls : List (List Int)} {cs : List Int} {y : Int} : y ∈ needS ls cs ↔ (0 ≤ y ∧ y < (ls.length : Int)) ∧ Dn ls (· ∈ cs) y := by
  unfold needS; rw [List.mem_filter, mem_upto, @decide_eq_true_iff _ (Classical.propDecidable _)]
theorem filter_rise {p : Int → Bool} {l : List Int} (h : Rise l) : Rise (l.filter p) := List.Pairwise.filter p h
theorem touchS_rise (ls : List (List Int)) (cs : List Int) : Rise (touchS ls cs) := filter_rise (upto_rise _)
theorem needS_rise (ls : List (List Int)) (cs : List Int) : Rise (needS ls cs) := filter_rise (upto_rise _)
theorem touchS_len (ls : List (List Int)) (cs : List Int) : (touchS ls cs).length ≤ ls.length := by
  have := List.length_filter_le (fun y => @decide (Up ls (· ∈ cs) y) (Classical.propDecidable _)) (upto ls.length)
  rw [upto_len] at this; exact this
theorem needS_len (ls : List (List Int)) (cs : List Int) : (needS ls cs).length ≤ ls.length := by
  have := List.length_filter_le (fun y => @decide (Dn ls (· ∈ cs) y) (Classical.propDecidable _)) (upto ls.length)
  rw [upto_len] at this; exact this
theorem touchL_is {ls : List (List Int)} {l cs : List Int} (hg : GoodP ls l) (hr : Rise cs) (hc : ∀ x ∈ cs, 0 ≤ x ∧ x < (ls.length : Int)) : touchL ls cs l = touchS ls cs := by
  refine rise_ext (touchL_rise _ _ hr) (touchS_rise _ _) (fun x => ?_)
  rw [mem_touchS]
  constructor
  · intro h
    have hx := touchL_in ls.length hg.range hc x h
    exact ⟨hx, (touchL_mem hg x (hg.all.2 hx)).1 h⟩
  · rintro ⟨hx, h⟩
    exact (touchL_mem hg x (hg.all.2 hx)).2 h

/-- The reference's list of what is needed: one task seen. -/
def need1 (out nd : List Int) : List Int := nd.foldl putL out
theorem need1_mem {nd : List Int} : ∀ {out : List Int} {y : Int}, y ∈ need1 out nd ↔ y ∈ out ∨ y ∈ nd := by
  induction nd with
  | nil => intro out y; simp [need1]
  | cons z r ih =>
    intro out y
    show y ∈ need1 (putL out z) r ↔ _
    rw [ih, mem_put, List.mem_cons]
    constructor
    · rintro ((h | h) | h) <;> simp [h]
    · rintro (h | h | h) <;> simp [h]
theorem need1_rise (nd : List Int) : ∀ {out : List Int}, Rise out → Rise (need1 out nd) := by
  induction nd with
  | nil => intro out h; exact h
  | cons z r ih => intro out h; exact ih (put_rise h)
theorem need1_snoc (out nd : List Int) (x : Int) : need1 out (nd ++ [x]) = putL (need1 out nd) x := by
  unfold need1; rw [List.foldl_append]; rfl
/-- From the place k on to the end, seen from the back. -/
def needF (ls : List (List Int)) (cs : List Int) (st : List Int) : List Int := st.foldr (fun k o => if hasL o k then need1 o (needsAt ls k) else o) cs
theorem needF_rise (ls : List (List Int)) (cs : List Int) (h : Rise cs) (st : List Int) : Rise (needF ls cs st) := by
  induction st with
  | nil => exact h
  | cons z r ih =>
    show Rise (if hasL (needF ls cs r) z then need1 (needF ls cs r) (needsAt ls z) else needF ls cs r)
    split
    · exact need1_rise _ ih
    · exact ih
theorem needF_drop {ls : List (List Int)} {cs l : List Int} {k : Nat} (hk : k < l.length) : needF ls cs (l.drop k) = if hasL (needF ls cs (l.drop (k + 1))) l[k] then need1 (needF ls cs (l.drop (k + 1))) (needsAt ls l[k]) else needF ls cs (l.drop (k + 1)) := by
  rw [List.drop_eq_getElem_cons hk]; rfl
theorem needF_mem {ls : List (List Int)} {l : List Int} (hg : GoodP ls l) {cs : List Int} : ∀ y ∈ l, (y ∈ needF ls cs l ↔ Dn ls (· ∈ cs) y) := by
  have := dn_whole hg (P := (· ∈ cs)) (S := fun j y => y ∈ needF ls cs (l.drop (l.length - j))) (fun y _ => by simp [needF]) (fun k hk y _ => by
    show y ∈ needF ls cs (l.drop (l.length - (l.length - k))) ↔ y ∈ needF ls cs (l.drop (l.length - (l.length - (k + 1)))) ∨ (l[k] ∈ needF ls cs (l.drop (l.length - (l.length - (k + 1)))) ∧ _)
    rw [show l.length - (l.length - k) = k by omega, show l.length - (l.length - (k + 1)) = k + 1 by omega, needF_drop hk]
    by_cases h : l[k] ∈ needF ls cs (l.drop (k + 1))
    · have : hasL (needF ls cs (l.drop (k + 1))) l[k] = true := by simp [hasL, h]
      rw [this, if_pos rfl, need1_mem]
      simp [h]
    · have : hasL (needF ls cs (l.drop (k + 1))) l[k] = false := by simp [hasL, h]
      rw [this, if_neg (by simp)]
      simp [h])
  simpa using this
theorem needF_in {ls : List (List Int)} {n : Nat} {cs : List Int} (hls : ∀ k : Nat, ∀ x ∈ needsAt ls (k : Int), 0 ≤ x ∧ x < (n : Int)) (hc : ∀ x ∈ cs, 0 ≤ x ∧ x < (n : Int)) (st : List Int) (hst : ∀ x ∈ st, 0 ≤ x ∧ x < (n : Int)) : ∀ x ∈ needF ls cs st, 0 ≤ x ∧ x < (n : Int) := by
  induction st with
  | nil => exact hc
  | cons z r ih =>
    intro x hx
    have ih' := ih (fun x hx => hst x (by simp [hx]))
    have hz := hst z (by simp)
    have hx' : x ∈ (if hasL (needF ls cs r) z then need1 (needF ls cs r) (needsAt ls z) else needF ls cs r) := hx
    split at hx'
    · rcases need1_mem.1 hx' with h | h
      · exact ih' x h
      · exact hls z.toNat x (by rw [show ((z.toNat : Nat) : Int) = z by omega]; exact h)
    · exact ih' x hx'
theorem GoodP.needs_range {ls : List (List Int)} {l : List Int} (hg : GoodP ls l) (k : Nat) : ∀ x ∈ needsAt ls (k : Int), 0 ≤ x ∧ x < (ls.length : Int) := by
  intro x hx
  obtain ⟨i, hi, he⟩ := List.getElem_of_mem (hg.all.2 ⟨by omega, needs_in (by omega) hx⟩)
  exact hg.range x (List.mem_of_mem_take (hg.needs_take hi (by rw [he]; exact hx)))
theorem needF_is {ls : List (List Int)} {l cs : List Int} (hg : GoodP ls l) (hr : Rise cs) (hc : ∀ x ∈ cs, 0 ≤ x ∧ x < (ls.length : Int)) : needF ls cs l = needS ls cs := by
  refine rise_ext (needF_rise _ _ hr _) (needS_rise _ _) (fun x => ?_)
  rw [mem_needS]
  constructor
  · intro h
    have hx := needF_in hg.needs_range hc l hg.range x h
    exact ⟨hx, (needF_mem hg x (hg.all.2 hx)).1 h⟩
  · rintro ⟨hx, h⟩
    exact (needF_mem hg x (hg.all.2 hx)).2 h

/-- None that is not among some needs one of them. -/
def Shut (ls : List (List Int)) (cs : List Int) : Prop := ∀ u : Nat, u < ls.length → (u : Int) ∉ cs → ∀ x ∈ needsAt ls u, x ∉ cs
theorem shut_touch {ls : List (List Int)} {cs : List Int} (h : Shut ls cs) (hr : Rise cs) (hc : ∀ x ∈ cs, 0 ≤ x ∧ x < (ls.length : Int)) : touchS ls cs = cs := by
  refine rise_ext (touchS_rise _ _) hr (fun x => ?_)
  rw [mem_touchS]
  constructor
  · rintro ⟨hr0, hu⟩
    clear hr0
    induction hu with
    | base h => exact h
    | @step k x h0 hx _ ih =>
      have hk := needs_in h0 hx
      rcases Classical.em (k ∈ cs) with hm | hm
      · exact hm
      · exact absurd ih (h k.toNat (by omega) (by rw [show ((k.toNat : Nat) : Int) = k by omega]; exact hm) x (by rw [show ((k.toNat : Nat) : Int) = k by omega]; exact hx))
  · exact fun h => ⟨hc x h, .base h⟩
theorem rise_nodup {l : List Int} (h : Rise l) : l.Nodup := List.Pairwise.imp (fun h => by omega) h
theorem touch_shut {ls : List (List Int)} {cs : List Int} (hr : Rise cs) (hc : ∀ x ∈ cs, 0 ≤ x ∧ x < (ls.length : Int)) (h : (touchS ls cs).length = cs.length) : Shut ls cs := by
  intro u hu hn x hx hm
  have hm' : (u : Int) ∈ touchS ls cs := mem_touchS.2 ⟨by omega, .step (by omega) hx (.base hm)⟩
  have := nodup_sub (a := (u : Int) :: cs) (b := touchS ls cs) (List.nodup_cons.2 ⟨hn, rise_nodup hr⟩) (fun y hy => by
    rw [List.mem_cons] at hy
    rcases hy with rfl | hy
    · exact hm'
    · exact mem_touchS.2 ⟨hc y hy, .base hy⟩)
  rw [List.length_cons, h] at this
  omega
open Classical in
noncomputable def shutB (ls : List (List Int)) (cs : List Int) : Bool := decide (Shut ls cs)
theorem shutB_len {ls : List (List Int)} {cs : List Int} (hr : Rise cs) (hc : ∀ x ∈ cs, 0 ≤ x ∧ x < (ls.length : Int)) : decide ((touchS ls cs).length = cs.length) = shutB ls cs := by
  unfold shutB
  rw [Bool.eq_iff_iff, decide_eq_true_iff, @decide_eq_true_iff _ (Classical.propDecidable _)]
  exact ⟨touch_shut hr hc, fun h => by rw [shut_touch h hr hc]⟩
theorem sort_filter {s l : List Int} {n : Nat} {p : Int → Bool} (hn : l.Nodup) (hm : ∀ x, x ∈ l ↔ 0 ≤ x ∧ x < (n : Int)) (hp : s.Perm (l.filter p)) (hs : s.Pairwise (· ≤ ·)) : s = (upto n).filter p := by
  have hd : s.Nodup := hp.nodup_iff.2 (hn.filter p)
  have hr : Rise s := by
    unfold Rise
    have h2 := List.Pairwise.and hs hd
    exact h2.imp (fun h => by omega)
  refine rise_ext hr (filter_rise (upto_rise n)) (fun x => ?_)
  rw [hp.mem_iff, List.mem_filter, List.mem_filter, hm, mem_upto]
end Pth
end Go.Proofs.Ytpjmdljjmknpkaa

/- Rows filled along the order: each task's cell turned by those of what it needs; as mathematics. -/
namespace Go.Proofs.Ytpjmdljjmknpkaa
open Go.RowKit Pth

/-- One task's needs seen. -/
def rowOne (f : Int → Int → Int) (u : Nat) (bs nd : List Int) : List Int := nd.foldl (fun b x => b.set u (f (at0 b u) (at0 b x))) bs
def rowAll (f : Int → Int → Int) (ls : List (List Int)) (bs st : List Int) : List Int := st.foldl (fun b u => rowOne f u.toNat b (needsAt ls u)) bs
theorem rowOne_len (f : Int → Int → Int) (u : Nat) (nd : List Int) : ∀ bs, (rowOne f u bs nd).length = bs.length := by
  unfold rowOne
  induction nd with
  | nil => intro bs; rfl
  | cons x r ih => intro bs; rw [List.foldl_cons, ih, List.length_set]
theorem rowOne_snoc (f : Int → Int → Int) (u : Nat) (bs nd : List Int) (x : Int) : rowOne f u bs (nd ++ [x]) = (rowOne f u bs nd).set u (f (at0 (rowOne f u bs nd) u) (at0 (rowOne f u bs nd) x)) := by
  unfold rowOne; rw [List.foldl_append]; rfl
theorem rowAll_len (f : Int → Int → Int) (ls : List (List Int)) (st : List Int) : ∀ bs, (rowAll f ls bs st).length = bs.length := by
  unfold rowAll
  induction st with
  | nil => intro bs; rfl
  | cons x r ih => intro bs; rw [List.foldl_cons, ih, rowOne_len]
theorem rowAll_snoc (f : Int → Int → Int) (ls : List (List Int)) (bs st : List Int) (x : Int) : rowAll f ls bs (st ++ [x]) = rowOne f x.toNat (rowAll f ls bs st) (needsAt ls x) := by
  unfold rowAll; rw [List.foldl_append]; rfl

def plusI (a b : Int) : Int := IntKind.i64.wrap (a + b)
/-- A level above another one. -/
def overI (a b : Int) : Int := if a > plusI b 1 then a else plusI b 1
def levelsL (ls : List (List Int)) (l : List Int) : List Int := rowAll overI ls (List.replicate ls.length 0) l
theorem levelsL_len (ls : List (List Int)) (l : List Int) : (levelsL ls l).length = ls.length := by unfold levelsL; rw [rowAll_len, List.length_replicate]
noncomputable def levelsA (ls : List (List Int)) (l : List Int) : List Int := if goodG ls l then levelsL ls l else []
theorem levelsA_no {ls : List (List Int)} {l : List Int} (h : goodG ls l = false) : levelsA ls l = [] := by unfold levelsA; rw [h]; rfl
theorem levelsA_yes {ls : List (List Int)} {l : List Int} (h : goodG ls l = true) : levelsA ls l = levelsL ls l := by unfold levelsA; rw [h]; rfl
theorem levelsA_short (ls : List (List Int)) (l : List Int) : (levelsA ls l).length ≤ 1000000 := by
  rcases h : goodG ls l with _ | _
  · rw [levelsA_no h]; simp
  · rw [levelsA_yes h, levelsL_len]; have := (goodG_iff.1 h).high; omega

/-- Where ways begin. -/
def oneAt (n : Nat) (t : Nat) : List Int := (List.replicate n 0).set t 1
theorem oneAt_len (n t : Nat) : (oneAt n t).length = n := by simp [oneAt]
theorem oneAt_at {n t j : Nat} (ht : t < n) (hj : j < n) : at0 (oneAt n t) (j : Int) = if j = t then 1 else 0 := by
  unfold oneAt
  rw [at0_set (by simpa using ht)]
  by_cases h : j = t
  · rw [if_pos h, if_pos h]
  · rw [if_neg h, if_neg h, at0_get (by simpa using hj), List.getElem_replicate]
def waysL (ls : List (List Int)) (l : List Int) (t : Nat) : List Int := rowAll plusI ls (oneAt ls.length t) l
theorem plusI_small {a : Int} (h : a = 0 ∨ a = 1) : plusI a 0 = a := by
  unfold plusI
  rcases h with rfl | rfl <;> rfl
theorem set_self {bs : List Int} {u : Nat} (hu : u < bs.length) : bs.set u (at0 bs (u : Int)) = bs := by
  rw [at0_get hu, List.set_getElem_self]
theorem one_stays {n t u : Nat} (ht : t < n) (hu : u < n) {nd : List Int} (hnd : ∀ x ∈ nd, 0 ≤ x ∧ x < (n : Int) ∧ x ≠ (t : Int)) : rowOne plusI u (oneAt n t) nd = oneAt n t := by
  induction nd with
  | nil => rfl
  | cons x r ih =>
    have hx := hnd x (by simp)
    show rowOne plusI u ((oneAt n t).set u (plusI (at0 (oneAt n t) u) (at0 (oneAt n t) x))) r = _
    obtain ⟨k, rfl⟩ : ∃ k : Nat, x = k := ⟨x.toNat, by omega⟩
    rw [oneAt_at ht (j := k) (by omega), if_neg (by omega), plusI_small (by rw [oneAt_at ht hu]; split <;> simp), set_self (by rw [oneAt_len]; exact hu)]
    exact ih (fun y hy => hnd y (by simp [hy]))
theorem ways_ahead {ls : List (List Int)} {l : List Int} (hg : GoodP ls l) {t : Nat} (ht : t < ls.length) {k : Nat} (hk : k ≤ l.length) (hn : (t : Int) ∉ l.take k) (f : Int → Int → Int) (hf : f = plusI) : rowAll f ls (oneAt ls.length t) (l.take k) = oneAt ls.length t := by
  subst hf
  induction k with
  | zero => simp [rowAll]
  | succ k ih =>
    have hk' : k < l.length := by omega
    rw [List.take_succ_eq_append_getElem hk'] at hn ⊢
    rw [List.mem_append, not_or] at hn
    rw [rowAll_snoc, ih (by omega) hn.1]
    have hr := hg.range _ (List.getElem_mem hk')
    refine one_stays ht (by omega) (fun x hx => ?_)
    have hxl := hg.needs_take hk' hx
    have hxr := hg.range _ (List.mem_of_mem_take hxl)
    exact ⟨hxr.1, hxr.2, fun e => hn.1 (by rw [← e]; exact hxl)⟩
/-- The last one's own needs add nothing. -/
theorem ways_self {ls : List (List Int)} {l : List Int} (hg : GoodP ls l) {t : Nat} (ht : t < ls.length) {k : Nat} (hk : k < l.length) (he : l[k] = (t : Int)) : rowAll plusI ls (oneAt ls.length t) (l.take (k + 1)) = rowAll plusI ls (oneAt ls.length t) (l.take k) := by
  have hn : (t : Int) ∉ l.take k := by rw [← he]; exact nodup_at hg.nodup hk
  rw [List.take_succ_eq_append_getElem hk, rowAll_snoc, ways_ahead hg ht (by omega) hn plusI rfl, he]
  refine one_stays ht (by omega) (fun x hx => ?_)
  have hxl := hg.needs_take hk (by rw [he]; exact hx)
  have hxr := hg.range _ (List.mem_of_mem_take hxl)
  exact ⟨hxr.1, hxr.2, fun e => hn (by rw [← e]; exact hxl)⟩
noncomputable def waysA (ls : List (List Int)) (l : List Int) (s t : Int) : Int := if taskG ls l s && taskG ls l t then at0 (waysL ls l t.toNat) s else 0
theorem waysA_no {ls : List (List Int)} {l : List Int} {s t : Int} (h : (taskG ls l s && taskG ls l t) = false) : waysA ls l s t = 0 := by unfold waysA; rw [h]; rfl
theorem waysA_yes {ls : List (List Int)} {l : List Int} {s t : Int} (h : (taskG ls l s && taskG ls l t) = true) : waysA ls l s t = at0 (waysL ls l t.toNat) s := by unfold waysA; rw [h]; rfl
end Go.Proofs.Ytpjmdljjmknpkaa

/- Walks: levels, of both programs. -/
namespace Go.Proofs.Ytpjmdljjmknpkaa
open Go.RowKit Pth

set_option maxHeartbeats 1000000 in
theorem l1Most_any (a b r : Int) (w : World) (hr : (if a > b then a else b) = r) :
    Calls Try.prog 126 #[.int .i64 a, .int .i64 b] w fun e w' => e = .returned (.int .i64 r) ∧ w' = w := by
  subst hr
  by_cases h : a > b
  · go_enter Try.func126, Try.ntmps126
    go_wp2_with fail
    go_ret
    exact ⟨rfl, rfl⟩
  · go_enter Try.func126, Try.ntmps126
    go_wp2_with fail
    go_ret
    exact ⟨rfl, rfl⟩

set_option maxRecDepth 20000 in
set_option maxHeartbeats 8000000 in
theorem l6Levels_any (ls : List (List Int)) (l : List Int) (v : Value) (w : World) (hst : GraphV w v ls l) (hG : GoodG ls l) :
    Calls Try.prog 105 #[v] w (IntsPost w.heap.size (levelsL ls l) w) := by
  have HV := Lib.hid hst
  obtain ⟨nv, ov, rfl, h1, h2⟩ := hst
  obtain ⟨an, cn, rfl, hn1, hn2, hat⟩ := h1.lists
  obtain ⟨ao, co, rfl, ho1, ho2, hao⟩ := h2.ints
  clear h1 h2
  unfold maxLen at hn2 ho2
  have HAT := Lib.hid hat
  have HAO := Lib.hid hao
  clear hat hao
  obtain ⟨wa, hwa⟩ : ∃ wa, wa = w.alloc (.cells #[.slice an ls.length cn, .slice ao l.length co] 26) := ⟨_, rfl⟩
  have P0 : Hid (Blk2 wa w.heap.size 26 (.slice an ls.length cn) (.slice ao l.length co)) := by rw [hwa]; exact Blk2.new
  have HA : Hid (Below w.heap.size w wa) := by rw [hwa]; exact (Below.refl w.heap.size w).alloc (Nat.le_refl _) _
  have hsa : wa.heap.size = w.heap.size + 1 := by rw [hwa]; simp
  have HSA := Lib.hid hsa
  have hsz : w.heap.size < wa.heap.size := by omega
  have HWA := Lib.hid hwa
  have h10 := hG.high
  have hsm := hG.same
  have HIN := Lib.hid (good_in hG)
  have HGG := Lib.hid hG
  obtain ⟨csI, hcI, mI⟩ := make_alloc elemI rfl ls.length (by omega)
  have HCI := Lib.hid hcI
  have HSL := Lib.hid hsm
  have hl10 : l.length ≤ 10 := by omega
  clear hcI hG hsm
  have HKW := HA
  have PW := P0
  have hszW := hsz
  have hH := (own_of_heap (w := wa.alloc (.cells csI 3)) (B := wa.heap.size) (heap_alloc_new wa _) (Nat.le_refl _) HCI.out (by simp) (show ls.length ≤ maxLen by unfold maxLen; omega))
  have HB1 : Hid (Below wa.heap.size wa (wa.alloc (.cells csI 3))) := (Below.refl wa.heap.size wa).alloc (Nat.le_refl _) _
  rw [HSA.out] at hH
  have hc1 := (P0.out.below HB1.out (by omega)).cells.2
  rw [hwa] at hc1
  have e0 : List.replicate ls.length (Value.int .i64 0) = I (List.replicate ls.length 0) := by simp [I]
  rw [e0] at hH
  have HO0 := Lib.hid hH
  have HB0 := HB1
  obtain ⟨w2, hw2⟩ : ∃ w2, w2 = wa.alloc (.cells csI 3) := ⟨_, rfl⟩
  rw [← hw2] at HO0 HB0
  rw [hwa] at hw2
  have HW2 := Lib.hid hw2
  clear hwa hsa hH e0 hw2 HB1
  go_enter Try.func105, Try.ntmps105
  go_wp2_with fail
  rw [← HW2.out]
  clear hc1 mI HW2
  go_loopw [15] (fun i wr => ∃ k : Nat, k ≤ l.length ∧ i = .int .i64 (k : Int) ∧ Hid (wr.ownsRow (w.heap.size + 1) 3 1 (.slice (some ⟨w.heap.size + 1, 0, none⟩) ls.length ls.length) ls.length (I (rowAll overI ls (List.replicate ls.length 0) (l.take k)))) ∧ Hid (Below wa.heap.size wa wr)) (fun i _ => l.length - (intOf i).toNat)
  case atStart => exact ⟨0, Nat.zero_le _, rfl, HO0, HB0⟩
  case round =>
    clear HO0 HB0
    obtain ⟨k, hk, rfl, HO, HB⟩ := hrel
    by_cases hlt : k < l.length
    · obtain ⟨g, o, hgo, hg, hcell0⟩ := HAO.out k hlt
      subst hgo
      obtain ⟨un, hun⟩ : ∃ un : Nat, l[k] = un := ⟨l[k].toNat, by have := HGG.out.tasks l[k] (List.getElem_mem hlt); omega⟩
      have hul : un < ls.length := by have := HGG.out.tasks l[k] (List.getElem_mem hlt); omega
      have hul2 : (un : Int) < (ls.length : Int) := by omega
      have hcell : wr.cell? ⟨g, o + k, none⟩ = some (.int .i64 (un : Int)) := by rw [(bth HKW.out HB.out (Nat.le_refl _)).cell (p := ⟨g, o + k, none⟩) hg, hcell0, hun]
      obtain ⟨d0, d1⟩ := (PW.out.below HB.out hszW).cells
      obtain ⟨g1, o1, a2, c2, hgn, hg1, hcell1, hrow⟩ := HAT.out un hul
      subst hgn
      have hcn : wr.cell? ⟨g1, o1 + un, none⟩ = some (.slice a2 ls[un].length c2) := ((bth HKW.out HB.out (Nat.le_refl _)).cell (p := ⟨g1, o1 + un, none⟩) hg1).trans hcell1
      have HRW : Hid (∀ W, Below w.heap.size w W → RowV W (.slice a2 ls[un].length c2) (I ls[un])) := fun W h => hrow.below h
      have hnl : ls[un].length ≤ c2 ∧ c2 ≤ 2 ^ 63 - 1 := by
        obtain ⟨_, _, h, h', h4, _⟩ := hrow.ints
        unfold maxLen at h4
        injection h with _ _ h3; omega
      obtain ⟨hnl, hc2⟩ := hnl
      have HBK : Hid (rowAll overI ls (List.replicate ls.length 0) (l.take (k + 1)) = rowOne overI un (rowAll overI ls (List.replicate ls.length 0) (l.take k)) ls[un]) := by
        show _ = _
        rw [List.take_succ_eq_append_getElem hlt, rowAll_snoc, hun, needsAt_get hul]
        rfl
      have hbk : (rowAll overI ls (List.replicate ls.length 0) (l.take k)).length = ls.length := by rw [rowAll_len]; simp [oneAt]
      generalize rowAll overI ls (List.replicate ls.length 0) (l.take k) = bk at *
      have HBKL := Lib.hid hbk
      clear hcell0 hcell1 hrow hbk hun
      go_wp2_with fail
      clear hcell hcn d0 d1
      go_loopw [25] (fun i wz => ∃ m : Nat, m ≤ ls[un].length ∧ i = .int .i64 (m : Int) ∧ Hid (wz.ownsRow (w.heap.size + 1) 3 1 (.slice (some ⟨w.heap.size + 1, 0, none⟩) ls.length ls.length) ls.length (I (rowOne overI un bk (ls[un].take m)))) ∧ Hid (Below wa.heap.size wa wz)) (fun i _ => ls[un].length - (intOf i).toNat)
      case atStart => exact ⟨0, Nat.zero_le _, rfl, HO, HB⟩
      case round =>
        clear HO HB
        obtain ⟨m, hm, rfl, HO, HB⟩ := hrel
        by_cases hlt2 : m < ls[un].length
        · have hxm := HIN.out un hul ls[un][m] (List.getElem_mem hlt2)
          obtain ⟨kn, hkn⟩ : ∃ kn : Nat, ls[un][m] = kn := ⟨ls[un][m].toNat, by omega⟩
          have hkl : kn < ls.length := by omega
          have hkl2 : (kn : Int) < (ls.length : Int) := by omega
          obtain ⟨gr, or, hra, hcr⟩ : ∃ gr or, a2 = some ⟨gr, or, none⟩ ∧ wr.cell? ⟨gr, or + m, none⟩ = some (.int .i64 (kn : Int)) := by
            obtain ⟨aa, cc, h, _, _, hc⟩ := (HRW.out wr (bth HKW.out HB.out (Nat.le_refl _))).ints
            injection h with h1 _ _
            obtain ⟨gr, or, h2, _, h3⟩ := hc m hlt2
            exact ⟨gr, or, by rw [h1, h2], by rw [h3, hkn]⟩
          subst hra
          have hlo : (rowOne overI un bk (ls[un].take m)).length = ls.length := by rw [rowOne_len, HBKL.out]
          have HE : Hid (rowOne overI un bk (ls[un].take (m + 1)) = (rowOne overI un bk (ls[un].take m)).set un (overI (at0 (rowOne overI un bk (ls[un].take m)) un) (at0 (rowOne overI un bk (ls[un].take m)) kn))) := by
            show _ = _
            rw [List.take_succ_eq_append_getElem hlt2, rowOne_snoc, hkn]
          generalize rowOne overI un bk (ls[un].take m) = bo at *
          have hcu : wr.cell? ⟨w.heap.size + 1, un, none⟩ = some (.int .i64 (at0 bo (un : Int))) := by rw [HO.out.cellAt un (by omega), I_at (by omega), at0_get (by omega)]
          have hck : wr.cell? ⟨w.heap.size + 1, kn, none⟩ = some (.int .i64 (at0 bo (kn : Int))) := by rw [HO.out.cellAt kn (by omega), I_at (by omega), at0_get (by omega)]
          have hf2 := HO.out.frozenAt un
          have hst := HO.out.stored un (.int .i64 (overI (at0 bo (un : Int)) (at0 bo (kn : Int))))
          rw [I_set, ← HE.out] at hst
          have HO1 := Lib.hid hst.1
          have HB1 := Lib.hid (HB.out.trans (only_below hst.2 (by have := HSA.out; omega) HB.out.size))
          clear hst HE hlo hkn hxm HO HB
          generalize at0 bo (un : Int) = cu at *
          generalize at0 bo (kn : Int) = ck at *
          obtain ⟨cp, hcp⟩ : ∃ cp, IntKind.i64.wrap (ck + 1) = cp := ⟨_, rfl⟩
          by_cases hca : cp > cu
          · have hov : overI cu ck = cp := by unfold overI plusI; rw [hcp, if_neg (by omega)]
            rw [hov] at HO1 HB1
            have hca1 : decide (cu > cp) = false := by simp; omega
            clear hov
            have HM := Lib.hid (fun W => l1Most_any cu cp cp W (by rw [if_neg (by omega)]))
            go_wp2_with fail
            go_region_with (go_at_call 126; refine (HM.out _).mono ?_; rintro e w9 ⟨rfl, rfl⟩)
            all_goals
              go_wp2_with fail
              go_roundw
              case rel => exact ⟨m + 1, by omega, by go_num, HO1, Lib.hid (Below.drew HB1.out)⟩
              case measure => simp [intOf]; omega
          · have hov : overI cu ck = cu := by
              unfold overI plusI; rw [hcp]
              split
              · rfl
              · omega
            rw [hov] at HO1 HB1
            clear hov
            have HM := Lib.hid (fun W => l1Most_any cu cp cu W (by split <;> omega))
            go_wp2_with fail
            go_region_with (go_at_call 126; refine (HM.out _).mono ?_; rintro e w9 ⟨rfl, rfl⟩)
            all_goals
              go_wp2_with fail
              go_roundw
              case rel => exact ⟨m + 1, by omega, by go_num, HO1, Lib.hid (Below.drew HB1.out)⟩
              case measure => simp [intOf]; omega
        · rw [List.take_of_length_le (by omega), ← HBK.out] at HO
          go_wp2_with fail
          go_roundw
          case rel => exact ⟨k + 1, by omega, by go_num, HO, HB⟩
          case measure => simp [intOf]; omega
    · rw [List.take_of_length_le (by omega)] at HO
      go_wp2_with fail
      go_ret
      exact ⟨_, rfl, by rw [levelsL_len]; exact own_base HO.out (by omega), bth HA.out HB.out (Nat.le_refl _)⟩

set_option maxRecDepth 20000 in
set_option maxHeartbeats 8000000 in
theorem implLevels_any (ls : List (List Int)) (l : List Int) (v : Value) (w : World) (hst : GraphV w v ls l) :
    Calls Try.prog 49 #[v] w (ListOk (levelsA ls l) (goodG ls l) w) := by
  have HV := Lib.hid hst
  obtain ⟨nv, ov, rfl, h1, h2⟩ := hst
  obtain ⟨an, cn, rfl, hn1, hn2, hat⟩ := h1.lists
  obtain ⟨ao, co, rfl, ho1, ho2, hao⟩ := h2.ints
  clear h1 h2
  unfold maxLen at hn2 ho2
  have HAT := Lib.hid hat
  have HAO := Lib.hid hao
  clear hat hao
  obtain ⟨wa, hwa⟩ : ∃ wa, wa = w.alloc (.cells #[.slice an ls.length cn, .slice ao l.length co] 26) := ⟨_, rfl⟩
  have P0 : Hid (Blk2 wa w.heap.size 26 (.slice an ls.length cn) (.slice ao l.length co)) := by rw [hwa]; exact Blk2.new
  have HA : Hid (Below w.heap.size w wa) := by rw [hwa]; exact (Below.refl w.heap.size w).alloc (Nat.le_refl _) _
  have hsa : wa.heap.size = w.heap.size + 1 := by rw [hwa]; simp
  have HSA := Lib.hid hsa
  have hsz : w.heap.size < wa.heap.size := by omega
  have HWA := Lib.hid hwa
  obtain ⟨c0, c1⟩ := P0.out.cells
  have HC := implGood_any ls l _ wa (HV.out.below HA.out)
  clear hwa
  rcases hG0 : goodG ls l with _ | _
  · rw [levelsA_no hG0]
    rw [hG0] at HC
    have HCC := Lib.hid HC
    clear HC hG0
    go_enter Try.func49, Try.ntmps49
    go_wp2_with fail
    rw [← HWA.out]
    refine HCC.out.mono ?_
    rintro e w1 ⟨rfl, hb1⟩
    have HB1 := Lib.hid (bth HA.out hb1 (Nat.le_refl _))
    clear hb1 c0 c1
    go_wp2_with fail
    go_ret2
    exact ⟨_, rfl, none_ownZ _ _ _, HB1.out⟩
  · rw [levelsA_yes hG0]
    rw [hG0] at HC
    have HCC := Lib.hid HC
    have hG := goodG_iff.1 hG0
    clear HC hG0
    have h10 := hG.high
    have hsm := hG.same
    have HIN := Lib.hid (good_in hG)
    have HGG := Lib.hid hG
    obtain ⟨csI, hcI, mI⟩ := make_alloc elemI rfl ls.length (by omega)
    have HCI := Lib.hid hcI
    have HSL := Lib.hid hsm
    have hl10 : l.length ≤ 10 := by omega
    clear hcI hG hsm
    go_enter Try.func49, Try.ntmps49
    go_wp2_with fail
    rw [← HWA.out]
    refine HCC.out.mono ?_
    rintro e w1 ⟨rfl, hb1⟩
    have HKW := Lib.hid (bth HA.out hb1 (Nat.le_refl _))
    have PW := Lib.hid (P0.out.below hb1 hsz)
    have hszW := Nat.lt_of_lt_of_le hsz hb1.size
    clear hb1 c0 c1
    have d0 := PW.out.cells.1
    have hH := (own_of_heap (w := w1.alloc (.cells csI 3)) (B := w1.heap.size) (heap_alloc_new w1 _) (Nat.le_refl _) HCI.out (by simp) (show ls.length ≤ maxLen by unfold maxLen; omega))
    have HB1 : Hid (Below w1.heap.size w1 (w1.alloc (.cells csI 3))) := (Below.refl w1.heap.size w1).alloc (Nat.le_refl _) _
    have hc1 := (PW.out.below HB1.out hszW).cells.2
    have e0 : List.replicate ls.length (Value.int .i64 0) = I (List.replicate ls.length 0) := by simp [I]
    rw [e0] at hH
    have HO0 := Lib.hid hH
    have HB0 := HB1
    clear hH e0 HB1
    go_wp2_with fail
    clear hc1 mI d0
    go_loopw [19] (fun i wr => ∃ k : Nat, k ≤ l.length ∧ i = .int .i64 (k : Int) ∧ Hid (wr.ownsRow (w1.heap.size) 3 1 (.slice (some ⟨w1.heap.size, 0, none⟩) ls.length ls.length) ls.length (I (rowAll overI ls (List.replicate ls.length 0) (l.take k)))) ∧ Hid (Below w1.heap.size w1 wr)) (fun i _ => l.length - (intOf i).toNat)
    case atStart => exact ⟨0, Nat.zero_le _, rfl, HO0, HB0⟩
    case round =>
      clear HO0 HB0
      obtain ⟨k, hk, rfl, HO, HB⟩ := hrel
      by_cases hlt : k < l.length
      · obtain ⟨g, o, hgo, hg, hcell0⟩ := HAO.out k hlt
        subst hgo
        obtain ⟨un, hun⟩ : ∃ un : Nat, l[k] = un := ⟨l[k].toNat, by have := HGG.out.tasks l[k] (List.getElem_mem hlt); omega⟩
        have hul : un < ls.length := by have := HGG.out.tasks l[k] (List.getElem_mem hlt); omega
        have hul2 : (un : Int) < (ls.length : Int) := by omega
        have hcell : wr.cell? ⟨g, o + k, none⟩ = some (.int .i64 (un : Int)) := by rw [(bth HKW.out HB.out (Nat.le_refl _)).cell (p := ⟨g, o + k, none⟩) hg, hcell0, hun]
        obtain ⟨d0, d1⟩ := (PW.out.below HB.out hszW).cells
        obtain ⟨g1, o1, a2, c2, hgn, hg1, hcell1, hrow⟩ := HAT.out un hul
        subst hgn
        have hcn : wr.cell? ⟨g1, o1 + un, none⟩ = some (.slice a2 ls[un].length c2) := ((bth HKW.out HB.out (Nat.le_refl _)).cell (p := ⟨g1, o1 + un, none⟩) hg1).trans hcell1
        have HRW : Hid (∀ W, Below w.heap.size w W → RowV W (.slice a2 ls[un].length c2) (I ls[un])) := fun W h => hrow.below h
        have hnl : ls[un].length ≤ c2 ∧ c2 ≤ 2 ^ 63 - 1 := by
          obtain ⟨_, _, h, h', h4, _⟩ := hrow.ints
          unfold maxLen at h4
          injection h with _ _ h3; omega
        obtain ⟨hnl, hc2⟩ := hnl
        have HBK : Hid (rowAll overI ls (List.replicate ls.length 0) (l.take (k + 1)) = rowOne overI un (rowAll overI ls (List.replicate ls.length 0) (l.take k)) ls[un]) := by
          show _ = _
          rw [List.take_succ_eq_append_getElem hlt, rowAll_snoc, hun, needsAt_get hul]
          rfl
        have hbk : (rowAll overI ls (List.replicate ls.length 0) (l.take k)).length = ls.length := by rw [rowAll_len]; simp [oneAt]
        generalize rowAll overI ls (List.replicate ls.length 0) (l.take k) = bk at *
        have HBKL := Lib.hid hbk
        clear hcell0 hcell1 hrow hbk hun
        go_wp2_with fail
        clear hcell hcn d0 d1
        go_loopw [29] (fun i wz => ∃ m : Nat, m ≤ ls[un].length ∧ i = .int .i64 (m : Int) ∧ Hid (wz.ownsRow (w1.heap.size) 3 1 (.slice (some ⟨w1.heap.size, 0, none⟩) ls.length ls.length) ls.length (I (rowOne overI un bk (ls[un].take m)))) ∧ Hid (Below w1.heap.size w1 wz)) (fun i _ => ls[un].length - (intOf i).toNat)
        case atStart => exact ⟨0, Nat.zero_le _, rfl, HO, HB⟩
        case round =>
          clear HO HB
          obtain ⟨m, hm, rfl, HO, HB⟩ := hrel
          by_cases hlt2 : m < ls[un].length
          · have hxm := HIN.out un hul ls[un][m] (List.getElem_mem hlt2)
            obtain ⟨kn, hkn⟩ : ∃ kn : Nat, ls[un][m] = kn := ⟨ls[un][m].toNat, by omega⟩
            have hkl : kn < ls.length := by omega
            have hkl2 : (kn : Int) < (ls.length : Int) := by omega
            obtain ⟨gr, or, hra, hcr⟩ : ∃ gr or, a2 = some ⟨gr, or, none⟩ ∧ wr.cell? ⟨gr, or + m, none⟩ = some (.int .i64 (kn : Int)) := by
              obtain ⟨aa, cc, h, _, _, hc⟩ := (HRW.out wr (bth HKW.out HB.out (Nat.le_refl _))).ints
              injection h with h1 _ _
              obtain ⟨gr, or, h2, _, h3⟩ := hc m hlt2
              exact ⟨gr, or, by rw [h1, h2], by rw [h3, hkn]⟩
            subst hra
            have hlo : (rowOne overI un bk (ls[un].take m)).length = ls.length := by rw [rowOne_len, HBKL.out]
            have HE : Hid (rowOne overI un bk (ls[un].take (m + 1)) = (rowOne overI un bk (ls[un].take m)).set un (overI (at0 (rowOne overI un bk (ls[un].take m)) un) (at0 (rowOne overI un bk (ls[un].take m)) kn))) := by
              show _ = _
              rw [List.take_succ_eq_append_getElem hlt2, rowOne_snoc, hkn]
            generalize rowOne overI un bk (ls[un].take m) = bo at *
            have hcu : wr.cell? ⟨w1.heap.size, un, none⟩ = some (.int .i64 (at0 bo (un : Int))) := by rw [HO.out.cellAt un (by omega), I_at (by omega), at0_get (by omega)]
            have hck : wr.cell? ⟨w1.heap.size, kn, none⟩ = some (.int .i64 (at0 bo (kn : Int))) := by rw [HO.out.cellAt kn (by omega), I_at (by omega), at0_get (by omega)]
            have hf2 := HO.out.frozenAt un
            have hst := HO.out.stored un (.int .i64 (overI (at0 bo (un : Int)) (at0 bo (kn : Int))))
            rw [I_set, ← HE.out] at hst
            have HO1 := Lib.hid hst.1
            have HB1 := Lib.hid (HB.out.trans (only_below hst.2 (Nat.le_refl _) HB.out.size))
            clear hst HE hlo hkn hxm HO HB
            generalize at0 bo (un : Int) = cu at *
            generalize at0 bo (kn : Int) = ck at *
            obtain ⟨cp, hcp⟩ : ∃ cp, IntKind.i64.wrap (ck + 1) = cp := ⟨_, rfl⟩
            by_cases hca : cp > cu
            · have hov : overI cu ck = cp := by unfold overI plusI; rw [hcp, if_neg (by omega)]
              rw [hov] at HO1 HB1
              have hca1 : decide (cu > cp) = false := by simp; omega
              clear hov
              have hmx : (if cp > cu then cp else cu) = cp := if_pos hca
              go_wp2_with fail
              go_region
              all_goals
                go_wp2_with fail
                go_roundw
                case rel => exact ⟨m + 1, by omega, by go_num, HO1, Lib.hid (Below.drew HB1.out)⟩
                case measure => simp [intOf]; omega
            · have hov : overI cu ck = cu := by
                unfold overI plusI; rw [hcp]
                split
                · rfl
                · omega
              rw [hov] at HO1 HB1
              clear hov
              have hmx : (if cp > cu then cp else cu) = cu := if_neg hca
              go_wp2_with fail
              go_region
              all_goals
                go_wp2_with fail
                go_roundw
                case rel => exact ⟨m + 1, by omega, by go_num, HO1, Lib.hid (Below.drew HB1.out)⟩
                case measure => simp [intOf]; omega
          · rw [List.take_of_length_le (by omega), ← HBK.out] at HO
            go_wp2_with fail
            go_roundw
            case rel => exact ⟨k + 1, by omega, by go_num, HO, HB⟩
            case measure => simp [intOf]; omega
      · rw [List.take_of_length_le (by omega)] at HO
        go_wp2_with fail
        go_ret2
        exact ⟨_, rfl, by rw [levelsL_len]; exact own_base HO.out (by omega), bth HKW.out HB.out (Nat.le_refl _)⟩

set_option maxRecDepth 20000 in
set_option maxHeartbeats 2000000 in
theorem specLevels_any (ls : List (List Int)) (l : List Int) (v : Value) (w : World) (hst : GraphV w v ls l) :
    Calls Try.prog 50 #[v] w (ListOk (levelsA ls l) (goodG ls l) w) := by
  have HV := Lib.hid hst
  obtain ⟨nv, ov, rfl, h1, h2⟩ := hst
  obtain ⟨an, cn, rfl, hn1, hn2, hat⟩ := h1.lists
  obtain ⟨ao, co, rfl, ho1, ho2, hao⟩ := h2.ints
  clear h1 h2
  unfold maxLen at hn2 ho2
  have HAT := Lib.hid hat
  have HAO := Lib.hid hao
  clear hat hao
  obtain ⟨wa, hwa⟩ : ∃ wa, wa = w.alloc (.cells #[.slice an ls.length cn, .slice ao l.length co] 26) := ⟨_, rfl⟩
  have P0 : Hid (Blk2 wa w.heap.size 26 (.slice an ls.length cn) (.slice ao l.length co)) := by rw [hwa]; exact Blk2.new
  have HA : Hid (Below w.heap.size w wa) := by rw [hwa]; exact (Below.refl w.heap.size w).alloc (Nat.le_refl _) _
  have hsa : wa.heap.size = w.heap.size + 1 := by rw [hwa]; simp
  have HSA := Lib.hid hsa
  have hsz : w.heap.size < wa.heap.size := by omega
  have HWA := Lib.hid hwa
  obtain ⟨c0, c1⟩ := P0.out.cells
  have HC := specGood_any ls l _ wa (HV.out.below HA.out)
  clear hwa
  rcases hG0 : goodG ls l with _ | _
  · rw [levelsA_no hG0]
    rw [hG0] at HC
    have HCC := Lib.hid HC
    clear HC hG0
    go_enter Try.func50, Try.ntmps50
    go_wp2_with fail
    rw [← HWA.out]
    refine HCC.out.mono ?_
    rintro e w1 ⟨rfl, hb1⟩
    have HB1 := Lib.hid (bth HA.out hb1 (Nat.le_refl _))
    clear hb1 c0 c1
    go_wp2_with fail
    go_ret2
    exact ⟨_, rfl, none_ownZ _ _ _, HB1.out⟩
  · rw [levelsA_yes hG0]
    rw [hG0] at HC
    have HCC := Lib.hid HC
    have HG := Lib.hid (goodG_iff.1 hG0)
    clear HC hG0
    go_enter Try.func50, Try.ntmps50
    go_wp2_with fail
    rw [← HWA.out]
    refine HCC.out.mono ?_
    rintro e w1 ⟨rfl, hb1⟩
    have HB1 := Lib.hid (bth HA.out hb1 (Nat.le_refl _))
    have d0 := (P0.out.below hb1 hsz).cells.1
    have d1 := (P0.out.below hb1 hsz).cells.2
    have HU := Lib.hid (l6Levels_any ls l _ w1 (HV.out.below HB1.out) HG.out)
    clear hb1 c0 c1
    go_wp2_with fail
    refine HU.out.mono ?_
    rintro e w2 ⟨v2, rfl, ho, hb2⟩
    have HO2 := Lib.hid (own_base ho HB1.out.size)
    have HB2 := Lib.hid (bth HB1.out hb2 (Nat.le_refl _))
    clear ho hb2
    go_wp2_with fail
    go_ret2
    exact ⟨_, rfl, HO2.out, HB2.out⟩
end Go.Proofs.Ytpjmdljjmknpkaa

/- Walks: how many ways, of both programs. -/
namespace Go.Proofs.Ytpjmdljjmknpkaa
open Go.RowKit Pth

/-- A number, and whether it is told. -/
def WaysOk (n : Int) (b : Bool) (w : World) (e : Ending) (w' : World) : Prop := e = .returned (.tuple #[.int .i64 n, .bool b]) ∧ Below w.heap.size w w'

set_option maxRecDepth 20000 in
set_option maxHeartbeats 8000000 in
theorem implWays_any (ls : List (List Int)) (l : List Int) (s t : Int) (v : Value) (w : World) (hst : GraphV w v ls l) :
    Calls Try.prog 52 #[v, .int .i64 s, .int .i64 t] w (WaysOk (waysA ls l s t) (taskG ls l s && taskG ls l t) w) := by
  have HV := Lib.hid hst
  obtain ⟨nv, ov, rfl, h1, h2⟩ := hst
  obtain ⟨an, cn, rfl, hn1, hn2, hat⟩ := h1.lists
  obtain ⟨ao, co, rfl, ho1, ho2, hao⟩ := h2.ints
  clear h1 h2
  unfold maxLen at hn2 ho2
  have HAT := Lib.hid hat
  have HAO := Lib.hid hao
  clear hat hao
  obtain ⟨wa, hwa⟩ : ∃ wa, wa = w.alloc (.cells #[.slice an ls.length cn, .slice ao l.length co] 26) := ⟨_, rfl⟩
  have P0 : Hid (Blk2 wa w.heap.size 26 (.slice an ls.length cn) (.slice ao l.length co)) := by rw [hwa]; exact Blk2.new
  have HA : Hid (Below w.heap.size w wa) := by rw [hwa]; exact (Below.refl w.heap.size w).alloc (Nat.le_refl _) _
  have hsa : wa.heap.size = w.heap.size + 1 := by rw [hwa]; simp
  have HSA := Lib.hid hsa
  have hsz : w.heap.size < wa.heap.size := by omega
  have HWA := Lib.hid hwa
  obtain ⟨c0, c1⟩ := P0.out.cells
  have HGD := Lib.hid (fun W (h : Below wa.heap.size wa W) => implGood_any ls l _ W (HV.out.below (bth HA.out h (Nat.le_refl _))))
  have HT := Lib.hid (fun W (h : Below wa.heap.size wa W) => isTask_any ls l s _ W (HV.out.below (bth HA.out h (Nat.le_refl _))))
  have HX := Lib.hid (fun W (h : Below wa.heap.size wa W) => isTask_any ls l t _ W (HV.out.below (bth HA.out h (Nat.le_refl _))))
  have HEQ : Hid ((goodG ls l && (decide (0 ≤ s) && decide (s < (ls.length : Int))) && (decide (0 ≤ t) && decide (t < (ls.length : Int)))) = (taskG ls l s && taskG ls l t)) := by
    show _ = _
    rcases hg : goodG ls l with _ | _
    · rw [taskG_good hg]; rfl
    · rw [taskG_of hg, taskG_of hg]; rfl
  have HNo : Hid ((goodG ls l && (decide (0 ≤ s) && decide (s < (ls.length : Int))) && (decide (0 ≤ t) && decide (t < (ls.length : Int)))) = false → waysA ls l s t = 0 ∧ (taskG ls l s && taskG ls l t) = false) := fun h => by
    rw [HEQ.out] at h
    exact ⟨waysA_no h, h⟩
  have HYes : Hid ((goodG ls l && (decide (0 ≤ s) && decide (s < (ls.length : Int))) && (decide (0 ≤ t) && decide (t < (ls.length : Int)))) = true → waysA ls l s t = at0 (waysL ls l t.toNat) s ∧ (taskG ls l s && taskG ls l t) = true ∧ GoodG ls l ∧ (0 ≤ s ∧ s < (ls.length : Int)) ∧ (0 ≤ t ∧ t < (ls.length : Int))) := fun h => by
    rw [HEQ.out] at h
    have h' := h
    rw [Bool.and_eq_true] at h'
    exact ⟨waysA_yes h, h, (taskG_yes h'.1).1, (taskG_yes h'.1).2, (taskG_yes h'.2).2⟩
  clear HEQ
  generalize (taskG ls l s && taskG ls l t) = bb at *
  generalize waysA ls l s t = R at *
  generalize goodG ls l = b0 at *
  generalize (decide (0 ≤ s) && decide (s < (ls.length : Int))) = b1 at *
  generalize (decide (0 ≤ t) && decide (t < (ls.length : Int))) = b2 at *
  clear hwa
  go_enter Try.func52, Try.ntmps52
  go_wp2_with fail
  rw [← HWA.out]
  refine (HGD.out wa (Below.refl _ _)).mono ?_
  rintro e w1 ⟨rfl, hb1⟩
  have K1 := Lib.hid hb1
  obtain ⟨p1, q1⟩ := (P0.out.below K1.out hsz).cells
  clear hb1 c0 c1
  cases b0 with
  | false =>
    have hR := HNo.out rfl
    obtain ⟨rfl, rfl⟩ := hR
    clear HNo HYes HT HX HGD
    go_wp2_with fail
    go_ret2
    exact ⟨rfl, bth HA.out K1.out (Nat.le_refl _)⟩
  | true =>
    go_wp2_with fail
    refine (HT.out w1 K1.out).mono ?_
    rintro e w2 ⟨rfl, hb2⟩
    have K2 := Lib.hid (bth K1.out hb2 (Nat.le_refl _))
    obtain ⟨p2, q2⟩ := (P0.out.below K2.out hsz).cells
    clear hb2 p1 q1
    cases b1 with
    | false =>
      have hR := HNo.out rfl
      obtain ⟨rfl, rfl⟩ := hR
      clear HNo HYes HT HX HGD
      go_wp2_with fail
      go_ret2
      exact ⟨rfl, bth HA.out K2.out (Nat.le_refl _)⟩
    | true =>
      go_wp2_with fail
      refine (HX.out w2 K2.out).mono ?_
      rintro e w3 ⟨rfl, hb3⟩
      have K3 := Lib.hid (bth K2.out hb3 (Nat.le_refl _))
      obtain ⟨p3, q3⟩ := (P0.out.below K3.out hsz).cells
      clear hb3 p2 q2
      cases b2 with
      | false =>
        have hR := HNo.out rfl
        obtain ⟨rfl, rfl⟩ := hR
        clear HNo HYes HT HX HGD
        go_wp2_with fail
        go_ret2
        exact ⟨rfl, bth HA.out K3.out (Nat.le_refl _)⟩
      | true =>
        obtain ⟨hR, rfl, hG, hs, ht⟩ := HYes.out rfl
        obtain ⟨tn, rfl⟩ : ∃ tn : Nat, t = tn := ⟨t.toNat, by omega⟩
        obtain ⟨sn, rfl⟩ : ∃ sn : Nat, s = sn := ⟨s.toNat, by omega⟩
        have htl : tn < ls.length := by omega
        have hsl : sn < ls.length := by omega
        have htl2 : (tn : Int) < (ls.length : Int) := by omega
        have hsl2 : (sn : Int) < (ls.length : Int) := by omega
        have htn : ((tn : Int)).toNat = tn := by omega
        rw [htn] at hR
        have HR := Lib.hid hR
        have HSELF := Lib.hid (fun k hk he => ways_self hG.toP htl (k := k) hk he)
        clear hR HNo HYes htn hs ht HT HX HGD
        have h10 := hG.high
        have hsm := hG.same
        have HIN := Lib.hid (good_in hG)
        have HGG := Lib.hid hG
        obtain ⟨csI, hcI, mI⟩ := make_alloc elemI rfl ls.length (by omega)
        have HCI := Lib.hid hcI
        have HSL := Lib.hid hsm
        have hl10 : l.length ≤ 10 := by omega
        clear hcI hG hsm
        have HKW := Lib.hid (bth HA.out K3.out (Nat.le_refl _))
        have PW := Lib.hid (P0.out.below K3.out hsz)
        have hszW := Nat.lt_of_lt_of_le hsz K3.out.size
        have hH := (own_of_heap (w := w3.alloc (.cells csI 3)) (B := w3.heap.size) (heap_alloc_new w3 _) (Nat.le_refl _) HCI.out (by simp) (show ls.length ≤ maxLen by unfold maxLen; omega))
        have HB1 : Hid (Below w3.heap.size w3 (w3.alloc (.cells csI 3))) := (Below.refl w3.heap.size w3).alloc (Nat.le_refl _) _
        have hfz := hH.frozenAt tn
        have hcz : (w3.alloc (.cells csI 3)).cell? ⟨w3.heap.size, tn, none⟩ = some (.int .i64 0) := by rw [hH.cellAt tn (by omega)]; simp [htl]
        have hc1 := (PW.out.below HB1.out hszW).cells.2
        have hstA := hH.stored tn (.int .i64 1)
        have e0 : (List.replicate ls.length (Value.int .i64 0)).set tn (.int .i64 1) = I (oneAt ls.length tn) := by unfold oneAt; rw [← I_set]; simp [I]
        rw [e0] at hstA
        have HO0 := Lib.hid hstA.1
        have HB0 := Lib.hid (HB1.out.trans (only_below hstA.2 (Nat.le_refl _) HB1.out.size))
        obtain ⟨wr2, hw2⟩ : ∃ wr2, wr2 = (w3.alloc (.cells csI 3)).setCell ⟨w3.heap.size, tn, none⟩ (.int .i64 1) := ⟨_, rfl⟩
        rw [← hw2] at HO0 HB0
        rw [World.setCell_alloc_at _ _ _ _ _ rfl] at hw2
        have HW2 := Lib.hid hw2
        clear hH hstA e0 hw2 HB1
        go_wp2_with fail
        rw [← HW2.out]
        clear hfz hcz hc1 mI HW2 p3 q3
        go_loopw [38] (fun i wr => ∃ k : Nat, k ≤ l.length ∧ i = .int .i64 (k : Int) ∧ Hid (wr.ownsRow (w3.heap.size) 3 1 (.slice (some ⟨w3.heap.size, 0, none⟩) ls.length ls.length) ls.length (I (rowAll plusI ls (oneAt ls.length tn) (l.take k)))) ∧ Hid (Below w3.heap.size w3 wr)) (fun i _ => l.length - (intOf i).toNat)
        case atStart => exact ⟨0, Nat.zero_le _, rfl, HO0, HB0⟩
        case round =>
          clear HO0 HB0
          obtain ⟨k, hk, rfl, HO, HB⟩ := hrel
          by_cases hlt : k < l.length
          · obtain ⟨g, o, hgo, hg, hcell0⟩ := HAO.out k hlt
            subst hgo
            obtain ⟨un, hun⟩ : ∃ un : Nat, l[k] = un := ⟨l[k].toNat, by have := HGG.out.tasks l[k] (List.getElem_mem hlt); omega⟩
            have hul : un < ls.length := by have := HGG.out.tasks l[k] (List.getElem_mem hlt); omega
            have hul2 : (un : Int) < (ls.length : Int) := by omega
            have hcell : wr.cell? ⟨g, o + k, none⟩ = some (.int .i64 (un : Int)) := by rw [(bth HKW.out HB.out (Nat.le_refl _)).cell (p := ⟨g, o + k, none⟩) hg, hcell0, hun]
            obtain ⟨d0, d1⟩ := (PW.out.below HB.out hszW).cells
            obtain ⟨g1, o1, a2, c2, hgn, hg1, hcell1, hrow⟩ := HAT.out un hul
            subst hgn
            have hcn : wr.cell? ⟨g1, o1 + un, none⟩ = some (.slice a2 ls[un].length c2) := ((bth HKW.out HB.out (Nat.le_refl _)).cell (p := ⟨g1, o1 + un, none⟩) hg1).trans hcell1
            have HRW : Hid (∀ W, Below w.heap.size w W → RowV W (.slice a2 ls[un].length c2) (I ls[un])) := fun W h => hrow.below h
            have hnl : ls[un].length ≤ c2 ∧ c2 ≤ 2 ^ 63 - 1 := by
              obtain ⟨_, _, h, h', h4, _⟩ := hrow.ints
              unfold maxLen at h4
              injection h with _ _ h3; omega
            obtain ⟨hnl, hc2⟩ := hnl
            have HBK : Hid (rowAll plusI ls (oneAt ls.length tn) (l.take (k + 1)) = rowOne plusI un (rowAll plusI ls (oneAt ls.length tn) (l.take k)) ls[un]) := by
              show _ = _
              rw [List.take_succ_eq_append_getElem hlt, rowAll_snoc, hun, needsAt_get hul]
              rfl
            have hbk : (rowAll plusI ls (oneAt ls.length tn) (l.take k)).length = ls.length := by rw [rowAll_len]; simp [oneAt]
            generalize rowAll plusI ls (oneAt ls.length tn) (l.take k) = bk at *
            have HBKL := Lib.hid hbk
            clear hcell0 hcell1 hrow hbk hun
            go_wp2_with fail
            clear hcell hcn d0 d1
            go_loopw [48] (fun i wz => ∃ m : Nat, m ≤ ls[un].length ∧ i = .int .i64 (m : Int) ∧ Hid (wz.ownsRow (w3.heap.size) 3 1 (.slice (some ⟨w3.heap.size, 0, none⟩) ls.length ls.length) ls.length (I (rowOne plusI un bk (ls[un].take m)))) ∧ Hid (Below w3.heap.size w3 wz)) (fun i _ => ls[un].length - (intOf i).toNat)
            case atStart => exact ⟨0, Nat.zero_le _, rfl, HO, HB⟩
            case round =>
              clear HO HB
              obtain ⟨m, hm, rfl, HO, HB⟩ := hrel
              by_cases hlt2 : m < ls[un].length
              · have hxm := HIN.out un hul ls[un][m] (List.getElem_mem hlt2)
                obtain ⟨kn, hkn⟩ : ∃ kn : Nat, ls[un][m] = kn := ⟨ls[un][m].toNat, by omega⟩
                have hkl : kn < ls.length := by omega
                have hkl2 : (kn : Int) < (ls.length : Int) := by omega
                obtain ⟨gr, or, hra, hcr⟩ : ∃ gr or, a2 = some ⟨gr, or, none⟩ ∧ wr.cell? ⟨gr, or + m, none⟩ = some (.int .i64 (kn : Int)) := by
                  obtain ⟨aa, cc, h, _, _, hc⟩ := (HRW.out wr (bth HKW.out HB.out (Nat.le_refl _))).ints
                  injection h with h1 _ _
                  obtain ⟨gr, or, h2, _, h3⟩ := hc m hlt2
                  exact ⟨gr, or, by rw [h1, h2], by rw [h3, hkn]⟩
                subst hra
                have hlo : (rowOne plusI un bk (ls[un].take m)).length = ls.length := by rw [rowOne_len, HBKL.out]
                have HE : Hid (rowOne plusI un bk (ls[un].take (m + 1)) = (rowOne plusI un bk (ls[un].take m)).set un (plusI (at0 (rowOne plusI un bk (ls[un].take m)) un) (at0 (rowOne plusI un bk (ls[un].take m)) kn))) := by
                  show _ = _
                  rw [List.take_succ_eq_append_getElem hlt2, rowOne_snoc, hkn]
                generalize rowOne plusI un bk (ls[un].take m) = bo at *
                have hcu : wr.cell? ⟨w3.heap.size, un, none⟩ = some (.int .i64 (at0 bo (un : Int))) := by rw [HO.out.cellAt un (by omega), I_at (by omega), at0_get (by omega)]
                have hck : wr.cell? ⟨w3.heap.size, kn, none⟩ = some (.int .i64 (at0 bo (kn : Int))) := by rw [HO.out.cellAt kn (by omega), I_at (by omega), at0_get (by omega)]
                have hf2 := HO.out.frozenAt un
                have hst := HO.out.stored un (.int .i64 (plusI (at0 bo (un : Int)) (at0 bo (kn : Int))))
                rw [I_set, ← HE.out] at hst
                have HO1 := Lib.hid hst.1
                have HB1 := Lib.hid (HB.out.trans (only_below hst.2 (Nat.le_refl _) HB.out.size))
                clear hst HE hlo hkn hxm HO HB
                generalize at0 bo (un : Int) = cu at *
                generalize at0 bo (kn : Int) = ck at *
                obtain ⟨cp, hcp⟩ : ∃ cp, IntKind.i64.wrap (cu + ck) = cp := ⟨_, rfl⟩
                have hov : plusI cu ck = cp := hcp
                rw [hov] at HO1 HB1
                clear hov
                go_wp2_with fail
                go_region
                all_goals
                  go_wp2_with fail
                  go_roundw
                  case rel => exact ⟨m + 1, by omega, by go_num, HO1, Lib.hid (Below.drew HB1.out)⟩
                  case measure => simp [intOf]; omega
              · rw [List.take_of_length_le (by omega), ← HBK.out] at HO
                go_wp2_with fail
                go_roundw
                case rel => exact ⟨k + 1, by omega, by go_num, HO, HB⟩
                case measure => simp [intOf]; omega
          · rw [List.take_of_length_le (by omega)] at HO
            have hlw : (waysL ls l tn).length = ls.length := by unfold waysL; rw [rowAll_len, oneAt_len]
            have hcs : wr.cell? ⟨w3.heap.size, sn, none⟩ = some (.int .i64 (at0 (waysL ls l tn) (sn : Int))) := by
              have h := HO.out.cellAt sn (by omega)
              rw [show rowAll plusI ls (oneAt ls.length tn) l = waysL ls l tn from rfl, I_at (by omega)] at h
              rw [h, at0_get (by omega)]
            clear hlw
            rw [← HR.out] at hcs
            go_wp2_with fail
            go_ret2
            exact ⟨rfl, bth HKW.out HB.out (Nat.le_refl _)⟩

set_option maxRecDepth 20000 in
set_option maxHeartbeats 8000000 in
theorem specWays_any (ls : List (List Int)) (l : List Int) (s t : Int) (v : Value) (w : World) (hst : GraphV w v ls l) :
    Calls Try.prog 53 #[v, .int .i64 s, .int .i64 t] w (WaysOk (waysA ls l s t) (taskG ls l s && taskG ls l t) w) := by
  have HV := Lib.hid hst
  obtain ⟨nv, ov, rfl, h1, h2⟩ := hst
  obtain ⟨an, cn, rfl, hn1, hn2, hat⟩ := h1.lists
  obtain ⟨ao, co, rfl, ho1, ho2, hao⟩ := h2.ints
  clear h1 h2
  unfold maxLen at hn2 ho2
  have HAT := Lib.hid hat
  have HAO := Lib.hid hao
  clear hat hao
  obtain ⟨wa, hwa⟩ : ∃ wa, wa = w.alloc (.cells #[.slice an ls.length cn, .slice ao l.length co] 26) := ⟨_, rfl⟩
  have P0 : Hid (Blk2 wa w.heap.size 26 (.slice an ls.length cn) (.slice ao l.length co)) := by rw [hwa]; exact Blk2.new
  have HA : Hid (Below w.heap.size w wa) := by rw [hwa]; exact (Below.refl w.heap.size w).alloc (Nat.le_refl _) _
  have hsa : wa.heap.size = w.heap.size + 1 := by rw [hwa]; simp
  have HSA := Lib.hid hsa
  have hsz : w.heap.size < wa.heap.size := by omega
  have HWA := Lib.hid hwa
  obtain ⟨c0, c1⟩ := P0.out.cells
  have HT := Lib.hid (fun W (h : Below wa.heap.size wa W) => l5Task_any ls l s _ W (HV.out.below (bth HA.out h (Nat.le_refl _))))
  have HX := Lib.hid (fun W (h : Below wa.heap.size wa W) => l5Task_any ls l t _ W (HV.out.below (bth HA.out h (Nat.le_refl _))))
  have HNo : Hid ((taskG ls l s && taskG ls l t) = false → waysA ls l s t = 0) := fun h => waysA_no h
  have HYes : Hid ((taskG ls l s && taskG ls l t) = true → waysA ls l s t = at0 (waysL ls l t.toNat) s ∧ GoodG ls l ∧ (0 ≤ s ∧ s < (ls.length : Int)) ∧ (0 ≤ t ∧ t < (ls.length : Int))) := fun h => by
    have h' := h
    rw [Bool.and_eq_true] at h'
    exact ⟨waysA_yes h, (taskG_yes h'.1).1, (taskG_yes h'.1).2, (taskG_yes h'.2).2⟩
  generalize waysA ls l s t = R at *
  generalize taskG ls l s = b1 at *
  generalize taskG ls l t = b2 at *
  clear hwa
  go_enter Try.func53, Try.ntmps53
  go_wp2_with fail
  rw [← HWA.out]
  refine (HT.out wa (Below.refl _ _)).mono ?_
  rintro e w1 ⟨rfl, hb1⟩
  have K1 := Lib.hid hb1
  obtain ⟨p1, q1⟩ := (P0.out.below K1.out hsz).cells
  clear hb1 c0 c1
  cases b1 with
  | false =>
    have hR := HNo.out rfl
    subst hR
    clear HNo HYes HT HX
    go_wp2_with fail
    go_ret2
    exact ⟨rfl, bth HA.out K1.out (Nat.le_refl _)⟩
  | true =>
    go_wp2_with fail
    refine (HX.out w1 K1.out).mono ?_
    rintro e w2 ⟨rfl, hb2⟩
    have K2 := Lib.hid (bth K1.out hb2 (Nat.le_refl _))
    obtain ⟨p2, q2⟩ := (P0.out.below K2.out hsz).cells
    clear hb2 p1 q1
    cases b2 with
    | false =>
      have hR := HNo.out rfl
      subst hR
      clear HNo HYes HT HX
      go_wp2_with fail
      go_ret2
      exact ⟨rfl, bth HA.out K2.out (Nat.le_refl _)⟩
    | true =>
      obtain ⟨hR, hG, hs, ht⟩ := HYes.out rfl
      obtain ⟨tn, rfl⟩ : ∃ tn : Nat, t = tn := ⟨t.toNat, by omega⟩
      obtain ⟨sn, rfl⟩ : ∃ sn : Nat, s = sn := ⟨s.toNat, by omega⟩
      have htl : tn < ls.length := by omega
      have hsl : sn < ls.length := by omega
      have htl2 : (tn : Int) < (ls.length : Int) := by omega
      have hsl2 : (sn : Int) < (ls.length : Int) := by omega
      have htn : ((tn : Int)).toNat = tn := by omega
      rw [htn] at hR
      have HR := Lib.hid hR
      have HSELF := Lib.hid (fun k hk he => ways_self hG.toP htl (k := k) hk he)
      clear hR HNo HYes htn hs ht HT HX
      have h10 := hG.high
      have hsm := hG.same
      have HIN := Lib.hid (good_in hG)
      have HGG := Lib.hid hG
      obtain ⟨csI, hcI, mI⟩ := make_alloc elemI rfl ls.length (by omega)
      have HCI := Lib.hid hcI
      have HSL := Lib.hid hsm
      have hl10 : l.length ≤ 10 := by omega
      clear hcI hG hsm
      have HKW := Lib.hid (bth HA.out K2.out (Nat.le_refl _))
      have PW := Lib.hid (P0.out.below K2.out hsz)
      have hszW := Nat.lt_of_lt_of_le hsz K2.out.size
      have hH := (own_of_heap (w := w2.alloc (.cells csI 3)) (B := w2.heap.size) (heap_alloc_new w2 _) (Nat.le_refl _) HCI.out (by simp) (show ls.length ≤ maxLen by unfold maxLen; omega))
      have HB1 : Hid (Below w2.heap.size w2 (w2.alloc (.cells csI 3))) := (Below.refl w2.heap.size w2).alloc (Nat.le_refl _) _
      have hfz := hH.frozenAt tn
      have hcz : (w2.alloc (.cells csI 3)).cell? ⟨w2.heap.size, tn, none⟩ = some (.int .i64 0) := by rw [hH.cellAt tn (by omega)]; simp [htl]
      have hc1 := (PW.out.below HB1.out hszW).cells.2
      have hstA := hH.stored tn (.int .i64 1)
      have e0 : (List.replicate ls.length (Value.int .i64 0)).set tn (.int .i64 1) = I (oneAt ls.length tn) := by unfold oneAt; rw [← I_set]; simp [I]
      rw [e0] at hstA
      have HO0 := Lib.hid hstA.1
      have HB0 := Lib.hid (HB1.out.trans (only_below hstA.2 (Nat.le_refl _) HB1.out.size))
      obtain ⟨wr2, hw2⟩ : ∃ wr2, wr2 = (w2.alloc (.cells csI 3)).setCell ⟨w2.heap.size, tn, none⟩ (.int .i64 1) := ⟨_, rfl⟩
      rw [← hw2] at HO0 HB0
      rw [World.setCell_alloc_at _ _ _ _ _ rfl] at hw2
      have HW2 := Lib.hid hw2
      clear hH hstA e0 hw2 HB1
      go_wp2_with fail
      rw [← HW2.out]
      clear hfz hcz hc1 mI HW2 p2 q2
      go_loopw [33] (fun i wr => ∃ k : Nat, k ≤ l.length ∧ i = .int .i64 (k : Int) ∧ Hid (wr.ownsRow (w2.heap.size) 3 1 (.slice (some ⟨w2.heap.size, 0, none⟩) ls.length ls.length) ls.length (I (rowAll plusI ls (oneAt ls.length tn) (l.take k)))) ∧ Hid (Below w2.heap.size w2 wr)) (fun i _ => l.length - (intOf i).toNat)
      case atStart => exact ⟨0, Nat.zero_le _, rfl, HO0, HB0⟩
      case round =>
        clear HO0 HB0
        obtain ⟨k, hk, rfl, HO, HB⟩ := hrel
        by_cases hlt : k < l.length
        · obtain ⟨g, o, hgo, hg, hcell0⟩ := HAO.out k hlt
          subst hgo
          obtain ⟨un, hun⟩ : ∃ un : Nat, l[k] = un := ⟨l[k].toNat, by have := HGG.out.tasks l[k] (List.getElem_mem hlt); omega⟩
          have hul : un < ls.length := by have := HGG.out.tasks l[k] (List.getElem_mem hlt); omega
          have hul2 : (un : Int) < (ls.length : Int) := by omega
          have hcell : wr.cell? ⟨g, o + k, none⟩ = some (.int .i64 (un : Int)) := by rw [(bth HKW.out HB.out (Nat.le_refl _)).cell (p := ⟨g, o + k, none⟩) hg, hcell0, hun]
          obtain ⟨d0, d1⟩ := (PW.out.below HB.out hszW).cells
          obtain ⟨g1, o1, a2, c2, hgn, hg1, hcell1, hrow⟩ := HAT.out un hul
          subst hgn
          have hcn : wr.cell? ⟨g1, o1 + un, none⟩ = some (.slice a2 ls[un].length c2) := ((bth HKW.out HB.out (Nat.le_refl _)).cell (p := ⟨g1, o1 + un, none⟩) hg1).trans hcell1
          have HRW : Hid (∀ W, Below w.heap.size w W → RowV W (.slice a2 ls[un].length c2) (I ls[un])) := fun W h => hrow.below h
          have hnl : ls[un].length ≤ c2 ∧ c2 ≤ 2 ^ 63 - 1 := by
            obtain ⟨_, _, h, h', h4, _⟩ := hrow.ints
            unfold maxLen at h4
            injection h with _ _ h3; omega
          obtain ⟨hnl, hc2⟩ := hnl
          have HBK : Hid (rowAll plusI ls (oneAt ls.length tn) (l.take (k + 1)) = rowOne plusI un (rowAll plusI ls (oneAt ls.length tn) (l.take k)) ls[un]) := by
            show _ = _
            rw [List.take_succ_eq_append_getElem hlt, rowAll_snoc, hun, needsAt_get hul]
            rfl
          have HSK : Hid ((un : Int) = (tn : Int) → rowAll plusI ls (oneAt ls.length tn) (l.take (k + 1)) = rowAll plusI ls (oneAt ls.length tn) (l.take k)) := fun h => HSELF.out k hlt (hun.trans h)
          have hbk : (rowAll plusI ls (oneAt ls.length tn) (l.take k)).length = ls.length := by rw [rowAll_len]; simp [oneAt]
          generalize rowAll plusI ls (oneAt ls.length tn) (l.take k) = bk at *
          have HBKL := Lib.hid hbk
          clear hcell0 hcell1 hrow hbk hun
          go_wp2_with fail
          clear hcell hcn d0 d1
          by_cases hut : un = tn
          · subst hut
            have hne : ((un : Int) != (un : Int)) = false := by simp
            have HBE := Lib.hid (HSK.out rfl)
            go_loopw [43] (fun i wz => ∃ m : Nat, m ≤ ls[un].length ∧ i = .int .i64 (m : Int) ∧ Hid (wz.ownsRow (w2.heap.size) 3 1 (.slice (some ⟨w2.heap.size, 0, none⟩) ls.length ls.length) ls.length (I bk)) ∧ Hid (Below w2.heap.size w2 wz)) (fun i _ => ls[un].length - (intOf i).toNat)
            case atStart => exact ⟨0, Nat.zero_le _, rfl, HO, HB⟩
            case round =>
              clear HO HB
              obtain ⟨m, hm, rfl, HO, HB⟩ := hrel
              by_cases hlt2 : m < ls[un].length
              · obtain ⟨gr, or, hra, hcr⟩ : ∃ gr or, a2 = some ⟨gr, or, none⟩ ∧ wr.cell? ⟨gr, or + m, none⟩ = some (.int .i64 ls[un][m]) := by
                  obtain ⟨aa, cc, h, _, _, hc⟩ := (HRW.out wr (bth HKW.out HB.out (Nat.le_refl _))).ints
                  injection h with h1 _ _
                  obtain ⟨gr, or, h2, _, h3⟩ := hc m hlt2
                  exact ⟨gr, or, by rw [h1, h2], h3⟩
                subst hra
                generalize ls[un][m] = xm at *
                go_wp2_with fail
                go_roundw
                case rel => exact ⟨m + 1, by omega, by go_num, HO, HB⟩
                case measure => simp [intOf]; omega
              · rw [← HBE.out] at HO
                go_wp2_with fail
                go_roundw
                case rel => exact ⟨k + 1, by omega, by go_num, HO, HB⟩
                case measure => simp [intOf]; omega
          · have hne : ((un : Int) != (tn : Int)) = true := by simp; omega
            go_loopw [43] (fun i wz => ∃ m : Nat, m ≤ ls[un].length ∧ i = .int .i64 (m : Int) ∧ Hid (wz.ownsRow (w2.heap.size) 3 1 (.slice (some ⟨w2.heap.size, 0, none⟩) ls.length ls.length) ls.length (I (rowOne plusI un bk (ls[un].take m)))) ∧ Hid (Below w2.heap.size w2 wz)) (fun i _ => ls[un].length - (intOf i).toNat)
            case atStart => exact ⟨0, Nat.zero_le _, rfl, HO, HB⟩
            case round =>
              clear HO HB
              obtain ⟨m, hm, rfl, HO, HB⟩ := hrel
              by_cases hlt2 : m < ls[un].length
              · have hxm := HIN.out un hul ls[un][m] (List.getElem_mem hlt2)
                obtain ⟨kn, hkn⟩ : ∃ kn : Nat, ls[un][m] = kn := ⟨ls[un][m].toNat, by omega⟩
                have hkl : kn < ls.length := by omega
                have hkl2 : (kn : Int) < (ls.length : Int) := by omega
                obtain ⟨gr, or, hra, hcr⟩ : ∃ gr or, a2 = some ⟨gr, or, none⟩ ∧ wr.cell? ⟨gr, or + m, none⟩ = some (.int .i64 (kn : Int)) := by
                  obtain ⟨aa, cc, h, _, _, hc⟩ := (HRW.out wr (bth HKW.out HB.out (Nat.le_refl _))).ints
                  injection h with h1 _ _
                  obtain ⟨gr, or, h2, _, h3⟩ := hc m hlt2
                  exact ⟨gr, or, by rw [h1, h2], by rw [h3, hkn]⟩
                subst hra
                have hlo : (rowOne plusI un bk (ls[un].take m)).length = ls.length := by rw [rowOne_len, HBKL.out]
                have HE : Hid (rowOne plusI un bk (ls[un].take (m + 1)) = (rowOne plusI un bk (ls[un].take m)).set un (plusI (at0 (rowOne plusI un bk (ls[un].take m)) un) (at0 (rowOne plusI un bk (ls[un].take m)) kn))) := by
                  show _ = _
                  rw [List.take_succ_eq_append_getElem hlt2, rowOne_snoc, hkn]
                generalize rowOne plusI un bk (ls[un].take m) = bo at *
                have hcu : wr.cell? ⟨w2.heap.size, un, none⟩ = some (.int .i64 (at0 bo (un : Int))) := by rw [HO.out.cellAt un (by omega), I_at (by omega), at0_get (by omega)]
                have hck : wr.cell? ⟨w2.heap.size, kn, none⟩ = some (.int .i64 (at0 bo (kn : Int))) := by rw [HO.out.cellAt kn (by omega), I_at (by omega), at0_get (by omega)]
                have hf2 := HO.out.frozenAt un
                have hst := HO.out.stored un (.int .i64 (plusI (at0 bo (un : Int)) (at0 bo (kn : Int))))
                rw [I_set, ← HE.out] at hst
                have HO1 := Lib.hid hst.1
                have HB1 := Lib.hid (HB.out.trans (only_below hst.2 (Nat.le_refl _) HB.out.size))
                clear hst HE hlo hkn hxm HO HB
                generalize at0 bo (un : Int) = cu at *
                generalize at0 bo (kn : Int) = ck at *
                obtain ⟨cp, hcp⟩ : ∃ cp, IntKind.i64.wrap (cu + ck) = cp := ⟨_, rfl⟩
                have hov : plusI cu ck = cp := hcp
                rw [hov] at HO1 HB1
                clear hov
                go_wp2_with fail
                go_region
                all_goals
                  go_wp2_with fail
                  go_roundw
                  case rel => exact ⟨m + 1, by omega, by go_num, HO1, Lib.hid (Below.drew HB1.out)⟩
                  case measure => simp [intOf]; omega
              · rw [List.take_of_length_le (by omega), ← HBK.out] at HO
                go_wp2_with fail
                go_roundw
                case rel => exact ⟨k + 1, by omega, by go_num, HO, HB⟩
                case measure => simp [intOf]; omega
        · rw [List.take_of_length_le (by omega)] at HO
          have hlw : (waysL ls l tn).length = ls.length := by unfold waysL; rw [rowAll_len, oneAt_len]
          have hcs : wr.cell? ⟨w2.heap.size, sn, none⟩ = some (.int .i64 (at0 (waysL ls l tn) (sn : Int))) := by
            have h := HO.out.cellAt sn (by omega)
            rw [show rowAll plusI ls (oneAt ls.length tn) l = waysL ls l tn from rfl, I_at (by omega)] at h
            rw [h, at0_get (by omega)]
          clear hlw
          rw [← HR.out] at hcs
          go_wp2_with fail
          go_ret2
          exact ⟨rfl, bth HKW.out HB.out (Nat.le_refl _)⟩
end Go.Proofs.Ytpjmdljjmknpkaa
