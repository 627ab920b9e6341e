/- Texts of one claim, joined in their order. -/
import Derived.Lib.SlicesCompact
import Derived.Shelf.Small.Bits
import Derived.Shelf.Small.Wraps
import Derived.Shelf.Strconv.Itoa0
import Derived.Shelf.Sort.Plain
import Derived.Shelf.Slices.Reverse
import Derived.Ground.Names2Prog
import Derived.Shelf.Slices.Clone
import Derived.Shelf.Slices.Cells
import Derived.Shelf.Slices.In.SortNone
import Derived.Test.YtgolhfmmlanmlaaProg
import Derived.Lib.OwnBridge
import Derived.Sort.OwnSortedInts
import Derived.Test.YtgolhfmmlanmlaaM6
import Derived.Test.YtgolhfmmlanmlaaM3
import Derived.Test.YtgolhfmmlanmlaaM1

/- Counts along the order, as mathematics. -/
namespace Go.Proofs.Ytgolhfmmlanmlaa
open Go.RowKit Pth

structure Best (ls : List (List Int)) (t : Int) (u : Nat) (nd : List Int) (c : Int) : Prop where
  low : 0 ≤ c
  self : (u : Int) = t → c = 1
  least : ∀ x ∈ nd, 0 ≤ farI ls t x → 0 < c ∧ c ≤ farI ls t x + 2
  some : 0 < c → (u : Int) = t ∨ ∃ x ∈ nd, farI ls t x = c - 2 ∧ 0 ≤ farI ls t x
theorem Best.done {ls : List (List Int)} {t : Int} {u : Nat} {c : Int} (hu : u < ls.length) (h : Best ls t u ls[u] c) : c = farI ls t u + 1 := by
  by_cases he : (u : Int) = t
  · rw [h.self he, he, farI_self]; rfl
  · have hn := needsAt_get hu
    have hl := farI_low ls t u
    by_cases hc : 0 < c
    · rcases h.some hc with h1 | ⟨x, hx, hf, h0⟩
      · exact absurd h1 he
      · have h2 := far_edge (ls := ls) (t := t) (k := (u : Int)) (x := x) (by rw [hn]; exact hx) h0
        obtain ⟨m, hm⟩ : ∃ m : Nat, farI ls t u = (m : Int) + 1 := by
          refine ⟨(farI ls t u).toNat - 1, ?_⟩
          have : farI ls t u ≠ 0 := fun h => he (farI_zero h)
          omega
        obtain ⟨y, hy, hyf⟩ := far_next hm
        rw [hn] at hy
        have := h.least y hy (by omega)
        omega
    · have h0 : c = 0 := by have := h.low; omega
      by_cases hf : farI ls t u < 0
      · omega
      · obtain ⟨m, hm⟩ : ∃ m : Nat, farI ls t u = (m : Int) + 1 := by
          refine ⟨(farI ls t u).toNat - 1, ?_⟩
          have : farI ls t u ≠ 0 := fun h => he (farI_zero h)
          omega
        obtain ⟨y, hy, hyf⟩ := far_next hm
        rw [hn] at hy
        have := h.least y hy (by omega)
        omega

def at0 (out : List Int) (k : Int) : Int := out.getD k.toNat 0
theorem at0_get {out : List Int} {k : Nat} (hk : k < out.length) : at0 out (k : Int) = out[k] := by
  unfold at0
  rw [show ((k : Int)).toNat = k by omega, List.getD_eq_getElem?_getD, List.getElem?_eq_getElem hk]; rfl
theorem at0_set {out : List Int} {k j : Nat} {e : Int} (hk : k < out.length) : at0 (out.set k e) (j : Int) = if j = k then e else at0 out (j : Int) := by
  unfold at0
  rw [show ((j : Int)).toNat = j by omega, List.getD_eq_getElem?_getD, List.getD_eq_getElem?_getD, List.getElem?_set]
  by_cases h : j = k
  · subst h; simp [hk]
  · rw [if_neg h, if_neg (by omega)]

structure Cnt (ls : List (List Int)) (t : Int) (done out : List Int) : Prop where
  len : out.length = ls.length
  yes : ∀ j : Nat, j < ls.length → (j : Int) ∈ done → at0 out j = farI ls t j + 1
  no : ∀ j : Nat, j < ls.length → (j : Int) ∉ done → at0 out j = if (j : Int) = t then 1 else 0
structure CntI (ls : List (List Int)) (t : Int) (done : List Int) (u : Nat) (nd out : List Int) : Prop where
  len : out.length = ls.length
  yes : ∀ j : Nat, j < ls.length → (j : Int) ∈ done → at0 out j = farI ls t j + 1
  no : ∀ j : Nat, j < ls.length → (j : Int) ∉ done → j ≠ u → at0 out j = if (j : Int) = t then 1 else 0
  here : Best ls t u nd (at0 out u)
  un : (u : Int) ∉ done
theorem Cnt.start {ls : List (List Int)} {t : Nat} (ht : t < ls.length) : Cnt ls t [] ((List.replicate ls.length 0).set t 1) := by
  refine ⟨by simp, fun j hj h => by simp at h, fun j hj _ => ?_⟩
  rw [at0_set (by simpa using ht)]
  by_cases h : j = t
  · rw [if_pos h, if_pos (by omega)]
  · rw [if_neg h, if_neg (by omega), at0_get (by simpa using hj), List.getElem_replicate]
theorem Cnt.open {ls : List (List Int)} {t : Int} {done out : List Int} {u : Nat} (h : Cnt ls t done out) (hu : u < ls.length) (hn : (u : Int) ∉ done) : CntI ls t done u [] out := by
  refine ⟨h.len, h.yes, fun j hj hd _ => h.no j hj hd, ?_, hn⟩
  rw [h.no u hu hn]
  by_cases he : (u : Int) = t
  · rw [if_pos he]; exact ⟨by omega, fun _ => rfl, fun x hx => by simp at hx, fun _ => .inl he⟩
  · rw [if_neg he]; exact ⟨by omega, fun h => absurd h he, fun x hx => by simp at hx, fun h => by omega⟩
theorem CntI.close {ls : List (List Int)} {t : Int} {done out : List Int} {u : Nat} (hu : u < ls.length) (h : CntI ls t done u ls[u] out) : Cnt ls t (done ++ [(u : Int)]) out := by
  refine ⟨h.len, fun j hj hd => ?_, fun j hj hd => ?_⟩
  · rw [List.mem_append, List.mem_singleton] at hd
    rcases hd with hd | hd
    · exact h.yes j hj hd
    · obtain rfl : j = u := by omega
      exact h.here.done hu
  · rw [List.mem_append, List.mem_singleton, not_or] at hd
    exact h.no j hj hd.1 (by omega)
/-- One need seen: not better. -/
theorem CntI.skip {ls : List (List Int)} {t : Int} {done nd out : List Int} {u k : Nat} (h : CntI ls t done u nd out) (hk : k < ls.length) (hd : (k : Int) ∈ done) (hs : ¬ (0 < at0 out k ∧ (at0 out u = 0 ∨ at0 out k + 1 < at0 out u))) : CntI ls t done u (nd ++ [(k : Int)]) out := by
  have hf := h.yes k hk hd
  have hl := h.here.low
  refine ⟨h.len, h.yes, h.no, ⟨hl, h.here.self, fun x hx h0 => ?_, fun hc => ?_⟩, h.un⟩
  · rw [List.mem_append, List.mem_singleton] at hx
    rcases hx with hx | hx
    · exact h.here.least x hx h0
    · subst hx
      omega
  · rcases h.here.some hc with h1 | ⟨x, hx, h2⟩
    · exact .inl h1
    · exact .inr ⟨x, by simp [hx], h2⟩
/-- One need seen: better. -/
theorem CntI.put {ls : List (List Int)} {t : Int} {done nd out : List Int} {u k : Nat} (h : CntI ls t done u nd out) (hu : u < ls.length) (hk : k < ls.length) (hd : (k : Int) ∈ done) (hs : 0 < at0 out k ∧ (at0 out u = 0 ∨ at0 out k + 1 < at0 out u)) : CntI ls t done u (nd ++ [(k : Int)]) (out.set u (at0 out k + 1)) := by
  have hf := h.yes k hk hd
  have hl := h.here.low
  have hul : u < out.length := by rw [h.len]; exact hu
  refine ⟨by rw [List.length_set]; exact h.len, fun j hj hd' => ?_, fun j hj hd' hne => ?_, ?_, h.un⟩
  · rw [at0_set hul, if_neg (fun e => h.un (by rw [← e]; exact hd'))]
    exact h.yes j hj hd'
  · rw [at0_set hul, if_neg hne]
    exact h.no j hj hd' hne
  · rw [at0_set hul, if_pos rfl]
    refine ⟨by omega, fun he => ?_, fun x hx h0 => ?_, fun _ => ?_⟩
    · have := h.here.self he; omega
    · rw [List.mem_append, List.mem_singleton] at hx
      rcases hx with hx | hx
      · have := h.here.least x hx h0; omega
      · subst hx; omega
    · exact .inr ⟨k, by simp, by omega, by omega⟩
/-- The counts. -/
noncomputable def countL (ls : List (List Int)) (t : Int) : List Int := (upto ls.length).map (fun k => farI ls t k + 1)
theorem countL_len (ls : List (List Int)) (t : Int) : (countL ls t).length = ls.length := by unfold countL; rw [List.length_map, upto_len]
theorem countL_get {ls : List (List Int)} {t : Int} {j : Nat} (h : j < (countL ls t).length) : (countL ls t)[j] = farI ls t j + 1 := by
  have : ∀ (m : List Int) (h : j < m.length), m = (upto ls.length).map (fun k => farI ls t k + 1) → m[j] = farI ls t j + 1 := by
    intro m h e
    subst e
    simp [upto_get]
  exact this _ h rfl
theorem Cnt.done {ls : List (List Int)} {t : Int} {done out : List Int} (h : Cnt ls t done out) (ha : ∀ j : Nat, j < ls.length → (j : Int) ∈ done) : out = countL ls t := by
  refine List.ext_getElem (by rw [h.len, countL_len]) (fun j h1 h2 => ?_)
  have hj : j < ls.length := by rw [← h.len]; exact h1
  have := h.yes j hj (ha j hj)
  rw [at0_get h1] at this
  rw [this, countL_get]
end Go.Proofs.Ytgolhfmmlanmlaa

/- Walks: the counts of the program. -/
namespace Go.Proofs.Ytgolhfmmlanmlaa
open Go.RowKit Pth

end Go.Proofs.Ytgolhfmmlanmlaa

/- Walks: the way round, told by the program. -/
namespace Go.Proofs.Ytgolhfmmlanmlaa
open Go.RowKit Pth

theorem taskG_of {ls : List (List Int)} {l : List Int} {k : Int} (h : goodG ls l = true) : taskG ls l k = (decide (0 ≤ k) && decide (k < (ls.length : Int))) := by unfold taskG; rw [h]; rfl

end Go.Proofs.Ytgolhfmmlanmlaa

/- The way round is short. -/
namespace Go.Proofs.Ytgolhfmmlanmlaa
open Go.RowKit Pth

theorem loopA_short (ls : List (List Int)) (l : List Int) (t x : Int) : (loopA ls l t x).length ≤ 1000000 := by
  rcases h : taskG ls l t && taskG ls l x with _ | _
  · rw [loopA_no h]; simp
  · rw [loopA_yes h]
    rw [Bool.and_eq_true] at h
    have h1 := taskG_yes h.1
    have h2 := taskG_yes h.2
    unfold loopL
    by_cases hn : farI ls t x < 0
    · rw [if_pos hn]; simp
    · rw [if_neg hn, wayL_len]
      have := far_small (t := t) h1.1 h2.2
      omega
end Go.Proofs.Ytgolhfmmlanmlaa

/- Walks: the marked ones of a stretch. -/
namespace Go.Proofs.Ytgolhfmmlanmlaa
open Go.RowKit Pth

def markB (bs : List Bool) (k : Int) : Bool := bs.getD k.toNat false
theorem markB_get {bs : List Bool} {k : Nat} (hk : k < bs.length) : markB bs (k : Int) = bs[k] := by
  unfold markB
  rw [show ((k : Int)).toNat = k by omega, List.getD_eq_getElem?_getD, List.getElem?_eq_getElem hk]; rfl

end Go.Proofs.Ytgolhfmmlanmlaa

/- Walks: the users in a stretch, marked. -/
namespace Go.Proofs.Ytgolhfmmlanmlaa
open Go.RowKit Pth

/-- One user's needs seen. -/
def markOne (u : Nat) (bs : List Bool) (nd : List Int) : List Bool := nd.foldl (fun b x => b.set u (markB b u || markB b x)) bs
def markUs (ls : List (List Int)) (bs : List Bool) (st : List Int) : List Bool := st.foldl (fun b u => markOne u.toNat b (needsAt ls u)) bs
theorem markOne_len (u : Nat) (nd : List Int) : ∀ bs, (markOne u bs nd).length = bs.length := by
  unfold markOne
  induction nd with
  | nil => intro bs; rfl
  | cons x r ih => intro bs; rw [List.foldl_cons, ih, List.length_set]
theorem markOne_snoc (u : Nat) (bs : List Bool) (nd : List Int) (x : Int) : markOne u bs (nd ++ [x]) = (markOne u bs nd).set u (markB (markOne u bs nd) u || markB (markOne u bs nd) x) := by
  unfold markOne; rw [List.foldl_append]; rfl
theorem markUs_len (ls : List (List Int)) (st : List Int) : ∀ bs, (markUs ls bs st).length = bs.length := by
  unfold markUs
  induction st with
  | nil => intro bs; rfl
  | cons x r ih => intro bs; rw [List.foldl_cons, ih, markOne_len]
theorem markUs_snoc (ls : List (List Int)) (bs : List Bool) (st : List Int) (x : Int) : markUs ls bs (st ++ [x]) = markOne x.toNat (markUs ls bs st) (needsAt ls x) := by
  unfold markUs; rw [List.foldl_append]; rfl

end Go.Proofs.Ytgolhfmmlanmlaa

/- Plain mathematics of what a change touches: what leads to some tasks and what they lead to; no program. -/
namespace Go.Proofs.Ytgolhfmmlanmlaa
namespace Pth

/-- What leads to one of some by needs. -/
inductive Up (ls : List (List Int)) (P : Int → Prop) : Int → Prop
  | base {k : Int} : P k → Up ls P k
  | step {k x : Int} : 0 ≤ k → x ∈ needsAt ls k → Up ls P x → Up ls P k
/-- What some lead to by needs. -/
inductive Dn (ls : List (List Int)) (P : Int → Prop) : Int → Prop
  | base {k : Int} : P k → Dn ls P k
  | step {k u : Int} : 0 ≤ u → k ∈ needsAt ls u → Dn ls P u → Dn ls P k

theorem needs_in {ls : List (List Int)} {k x : Int} (h0 : 0 ≤ k) (h : x ∈ needsAt ls k) : k < (ls.length : Int) := by
  unfold needsAt at h
  rcases Nat.lt_or_ge k.toNat ls.length with h1 | h1
  · omega
  · rw [List.getD_eq_getElem?_getD, List.getElem?_eq_none h1] at h
    simp at h
theorem Up.mono {ls : List (List Int)} {P Q : Int → Prop} (h : ∀ x, P x → Q x) {k : Int} (hk : Up ls P k) : Up ls Q k := by
  induction hk with
  | base hp => exact .base (h _ hp)
  | step h0 hx _ ih => exact .step h0 hx ih
theorem Up.twice {ls : List (List Int)} {P Q : Int → Prop} (h : ∀ x, P x → Up ls Q x) {k : Int} (hk : Up ls P k) : Up ls Q k := by
  induction hk with
  | base hp => exact h _ hp
  | step h0 hx _ ih => exact .step h0 hx ih
theorem Dn.twice {ls : List (List Int)} {P Q : Int → Prop} (h : ∀ x, P x → Dn ls Q x) {k : Int} (hk : Dn ls P k) : Dn ls Q k := by
  induction hk with
  | base hp => exact h _ hp
  | step h0 hx _ ih => exact .step h0 hx ih
theorem Dn.mono {ls : List (List Int)} {P Q : Int → Prop} (h : ∀ x, P x → Q x) {k : Int} (hk : Dn ls P k) : Dn ls Q k := hk.twice (fun x hx => .base (h x hx))
theorem Up.none {ls : List (List Int)} {k : Int} : ¬ Up ls (fun _ => False) k := by
  intro h
  induction h with
  | base h => exact h
  | step _ _ _ ih => exact ih
theorem Dn.none {ls : List (List Int)} {k : Int} : ¬ Dn ls (fun _ => False) k := by
  intro h
  induction h with
  | base h => exact h
  | step _ _ _ ih => exact ih

theorem GoodP.needs_take {ls : List (List Int)} {l : List Int} (h : GoodP ls l) {k : Nat} (hk : k < l.length) {x : Int} (hx : x ∈ needsAt ls l[k]) : x ∈ l.take k := by
  obtain ⟨t, ht, he, _, _, h2⟩ := h.each k hk
  rw [he, needsAt_get ht] at hx
  exact h2 x hx
theorem GoodP.all {ls : List (List Int)} {l : List Int} (h : GoodP ls l) {k : Int} : k ∈ l ↔ 0 ≤ k ∧ k < (ls.length : Int) :=
  ⟨h.range k, fun hk => all_there h.same h.nodup h.range hk⟩
theorem GoodP.self {ls : List (List Int)} {l : List Int} (h : GoodP ls l) {k : Nat} (hk : k < l.length) : l[k] ∉ needsAt ls l[k] := fun hx => nodup_at h.nodup hk (h.needs_take hk hx)
theorem Up.range {ls : List (List Int)} {P : Int → Prop} (hp : ∀ x, P x → 0 ≤ x ∧ x < (ls.length : Int)) {k : Int} (h : Up ls P k) : 0 ≤ k ∧ k < (ls.length : Int) := by
  cases h with
  | base h => exact hp _ h
  | step h0 hx _ => exact ⟨h0, needs_in h0 hx⟩
theorem Dn.range {ls : List (List Int)} {l : List Int} (hg : GoodP ls l) {P : Int → Prop} (hp : ∀ x, P x → 0 ≤ x ∧ x < (ls.length : Int)) {k : Int} (h : Dn ls P k) : 0 ≤ k ∧ k < (ls.length : Int) := by
  cases h with
  | base h => exact hp _ h
  | step h0 hx _ =>
    rename_i u hu
    have hul := hg.all.2 ⟨h0, needs_in h0 hx⟩
    obtain ⟨i, hi, rfl⟩ := List.getElem_of_mem hul
    exact hg.range _ (List.mem_of_mem_take (hg.needs_take hi hx))

/-- Along the order: one is marked where one that it needs is. -/
theorem up_along {ls : List (List Int)} {l : List Int} (hg : GoodP ls l) {P : Int → Prop} {S : Nat → Int → Prop} (h0 : ∀ y ∈ l, S 0 y ↔ P y)
    (hs : ∀ k (hk : k < l.length), ∀ y ∈ l, (S (k + 1) y ↔ S k y ∨ (y = l[k] ∧ ∃ x ∈ needsAt ls l[k], S k x))) :
    ∀ k, k ≤ l.length → ∀ y ∈ l, (S k y ↔ P y ∨ (y ∈ l.take k ∧ Up ls P y)) := by
  intro k
  induction k with
  | zero => intro _ y hy; rw [h0 y hy]; simp
  | succ k ih =>
    intro hk y hy
    have hk' : k < l.length := by omega
    rw [hs k hk' y hy, ih (by omega) y hy]
    have hu0 := (hg.range l[k] (List.getElem_mem hk')).1
    constructor
    · rintro ((h | ⟨h1, h2⟩) | ⟨rfl, x, hx, hxs⟩)
      · exact .inl h
      · exact .inr ⟨List.mem_of_mem_take (i := k) (by rw [List.take_take, Nat.min_eq_left (by omega)]; exact h1), h2⟩
      · have hxl := hg.needs_take hk' hx
        refine .inr ⟨by rw [List.take_succ_eq_append_getElem hk']; exact List.mem_append.2 (.inr (List.mem_singleton.2 rfl)), ?_⟩
        rcases (ih (by omega) x (List.mem_of_mem_take hxl)).1 hxs with h | ⟨_, h⟩
        · exact .step hu0 hx (.base h)
        · exact .step hu0 hx h
    · rintro (h | ⟨h1, h2⟩)
      · exact .inl (.inl h)
      · rw [List.take_succ_eq_append_getElem hk', List.mem_append, List.mem_singleton] at h1
        rcases h1 with h1 | rfl
        · exact .inl (.inr ⟨h1, h2⟩)
        · cases h2 with
          | base h => exact .inl (.inl h)
          | @step _ x _ hx hux =>
            have hxl := hg.needs_take hk' hx
            exact .inr ⟨rfl, x, hx, (ih (by omega) x (List.mem_of_mem_take hxl)).2 (.inr ⟨hxl, hux⟩)⟩
theorem up_whole {ls : List (List Int)} {l : List Int} (hg : GoodP ls l) {P : Int → Prop} {S : Nat → Int → Prop} (h0 : ∀ y ∈ l, S 0 y ↔ P y)
    (hs : ∀ k (hk : k < l.length), ∀ y ∈ l, (S (k + 1) y ↔ S k y ∨ (y = l[k] ∧ ∃ x ∈ needsAt ls l[k], S k x))) :
    ∀ y ∈ l, (S l.length y ↔ Up ls P y) := by
  intro y hy
  rw [up_along hg h0 hs l.length (Nat.le_refl _) y hy, List.take_length]
  constructor
  · rintro (h | ⟨_, h⟩)
    · exact .base h
    · exact h
  · exact fun h => .inr ⟨hy, h⟩

/-- Against the order: what one needs that is marked is marked. -/
theorem dn_along {ls : List (List Int)} {l : List Int} (hg : GoodP ls l) {P : Int → Prop} {S : Nat → Int → Prop} (h0 : ∀ y ∈ l, S 0 y ↔ P y)
    (hs : ∀ k (hk : k < l.length), ∀ y ∈ l, (S (l.length - k) y ↔ S (l.length - (k + 1)) y ∨ (S (l.length - (k + 1)) l[k] ∧ y ∈ needsAt ls l[k]))) :
    ∀ j, j ≤ l.length → ∀ y ∈ l, (S j y ↔ P y ∨ ∃ i, ∃ hi : i < l.length, l.length - j ≤ i ∧ Dn ls P l[i] ∧ y ∈ needsAt ls l[i]) := by
  intro j
  induction j with
  | zero =>
    intro _ y hy
    rw [h0 y hy]
    constructor
    · exact .inl
    · rintro (h | ⟨i, hi, h, _⟩)
      · exact h
      · omega
  | succ j ih =>
    intro hj y hy
    have hk : l.length - (j + 1) < l.length := by omega
    have hst := hs (l.length - (j + 1)) hk y hy
    rw [show l.length - (l.length - (j + 1)) = j + 1 by omega, show l.length - (l.length - (j + 1) + 1) = j by omega] at hst
    have hul := List.getElem_mem hk
    have hu0 := (hg.range _ hul).1
    have hU : S j l[l.length - (j + 1)] ↔ Dn ls P l[l.length - (j + 1)] := by
      rw [ih (by omega) _ hul]
      constructor
      · rintro (h | ⟨i, hi, _, h, hm⟩)
        · exact .base h
        · exact .step (hg.range _ (List.getElem_mem hi)).1 hm h
      · intro h
        cases h with
        | base h => exact .inl h
        | step hv0 hm hv =>
          rename_i v
          obtain ⟨i, hi, rfl⟩ := List.getElem_of_mem (hg.all.2 ⟨hv0, needs_in hv0 hm⟩)
          have h1 := (mem_take_pos.1 (hg.needs_take hi hm)).2
          rw [pos_nodup hg.nodup hk] at h1
          exact .inr ⟨i, hi, by omega, hv, hm⟩
    rw [hst, ih (by omega) y hy, hU]
    constructor
    · rintro ((h | ⟨i, hi, h1, h2, h3⟩) | ⟨h1, h2⟩)
      · exact .inl h
      · exact .inr ⟨i, hi, by omega, h2, h3⟩
      · exact .inr ⟨_, hk, Nat.le_refl _, h1, h2⟩
    · rintro (h | ⟨i, hi, h1, h2, h3⟩)
      · exact .inl (.inl h)
      · rcases Nat.lt_or_ge i (l.length - j) with h4 | h4
        · obtain rfl : i = l.length - (j + 1) := by omega
          exact .inr ⟨h2, h3⟩
        · exact .inl (.inr ⟨i, hi, h4, h2, h3⟩)
theorem dn_whole {ls : List (List Int)} {l : List Int} (hg : GoodP ls l) {P : Int → Prop} {S : Nat → Int → Prop} (h0 : ∀ y ∈ l, S 0 y ↔ P y)
    (hs : ∀ k (hk : k < l.length), ∀ y ∈ l, (S (l.length - k) y ↔ S (l.length - (k + 1)) y ∨ (S (l.length - (k + 1)) l[k] ∧ y ∈ needsAt ls l[k]))) :
    ∀ y ∈ l, (S l.length y ↔ Dn ls P y) := by
  intro y hy
  rw [dn_along hg h0 hs l.length (Nat.le_refl _) y hy]
  constructor
  · rintro (h | ⟨i, hi, _, h, hm⟩)
    · exact .base h
    · exact .step (hg.range _ (List.getElem_mem hi)).1 hm h
  · intro h
    cases h with
    | base h => exact .inl h
    | step hv0 hm hv =>
      obtain ⟨i, hi, rfl⟩ := List.getElem_of_mem (hg.all.2 ⟨hv0, needs_in hv0 hm⟩)
      exact .inr ⟨i, hi, by omega, hv, hm⟩

/-- The reference's list, one task's needs seen. -/
def touch1 (k : Int) (out nd : List Int) : List Int := nd.foldl (fun o x => if hasL o x then putL o k else o) out
def touchL (ls : List (List Int)) (out st : List Int) : List Int := st.foldl (fun o k => touch1 k o (needsAt ls k)) out
theorem touch1_mem {k : Int} {nd : List Int} (hk : k ∉ nd) : ∀ {out : List Int} {y : Int}, y ∈ touch1 k out nd ↔ y ∈ out ∨ (y = k ∧ ∃ x ∈ nd, x ∈ out) := by
  induction nd with
  | nil => intro out y; simp [touch1]
  | cons z r ih =>
    intro out y
    rw [List.mem_cons, not_or] at hk
    show y ∈ touch1 k (if hasL out z then putL out k else out) r ↔ _
    rw [ih hk.2]
    by_cases hz : z ∈ out
    · have : hasL out z = true := by simp [hasL, hz]
      rw [this, if_pos rfl, mem_put]
      constructor
      · rintro ((h | h) | ⟨h1, x, hx, h2⟩)
        · exact .inr ⟨h, z, by simp, hz⟩
        · exact .inl h
        · exact .inr ⟨h1, z, by simp, hz⟩
      · rintro (h | ⟨h1, _⟩)
        · exact .inl (.inr h)
        · exact .inl (.inl h1)
    · have : hasL out z = false := by simp [hasL, hz]
      rw [this, if_neg (by simp)]
      constructor
      · rintro (h | ⟨h1, x, hx, h2⟩)
        · exact .inl h
        · exact .inr ⟨h1, x, by simp [hx], h2⟩
      · rintro (h | ⟨h1, x, hx, h2⟩)
        · exact .inl h
        · rw [List.mem_cons] at hx
          rcases hx with rfl | hx
          · exact absurd h2 hz
          · exact .inr ⟨h1, x, hx, h2⟩
theorem touch1_rise {k : Int} (nd : List Int) : ∀ {out : List Int}, Rise out → Rise (touch1 k out nd) := by
  induction nd with
  | nil => intro out h; exact h
  | cons z r ih =>
    intro out h
    show Rise (touch1 k (if hasL out z then putL out k else out) r)
    apply ih
    split
    · exact put_rise h
    · exact h
theorem touch1_snoc (k : Int) (out nd : List Int) (x : Int) : touch1 k out (nd ++ [x]) = if hasL (touch1 k out nd) x then putL (touch1 k out nd) k else touch1 k out nd := by
  unfold touch1; rw [List.foldl_append]; rfl
theorem touchL_snoc (ls : List (List Int)) (out st : List Int) (k : Int) : touchL ls out (st ++ [k]) = touch1 k (touchL ls out st) (needsAt ls k) := by
  unfold touchL; rw [List.foldl_append]; rfl
theorem touchL_rise (ls : List (List Int)) (st : List Int) : ∀ {out : List Int}, Rise out → Rise (touchL ls out st) := by
  induction st with
  | nil => intro out h; exact h
  | cons z r ih => intro out h; exact ih (touch1_rise _ h)
theorem touchL_mem {ls : List (List Int)} {l : List Int} (hg : GoodP ls l) {cs : List Int} : ∀ y ∈ l, (y ∈ touchL ls cs l ↔ Up ls (· ∈ cs) y) := by
  have := up_whole hg (P := (· ∈ cs)) (S := fun k y => y ∈ touchL ls cs (l.take k)) (fun y _ => by simp [touchL]) (fun k hk y _ => by
    show y ∈ touchL ls cs (l.take (k + 1)) ↔ _
    rw [List.take_succ_eq_append_getElem hk, touchL_snoc, touch1_mem (hg.self hk)])
  simpa using this
theorem touchL_in {ls : List (List Int)} (n : Nat) {st : List Int} (hst : ∀ x ∈ st, 0 ≤ x ∧ x < (n : Int)) : ∀ {out : List Int}, (∀ x ∈ out, 0 ≤ x ∧ x < (n : Int)) → ∀ x ∈ touchL ls out st, 0 ≤ x ∧ x < (n : Int) := by
  induction st with
  | nil => intro out h; exact h
  | cons z r ih =>
    intro out h
    refine ih (fun x hx => hst x (by simp [hx])) (fun x hx => ?_)
    have hx' : x ∈ touch1 z out (needsAt ls z) := hx
    have key : ∀ (nd o : List Int), (∀ x ∈ o, 0 ≤ x ∧ x < (n : Int)) → ∀ x ∈ touch1 z o nd, 0 ≤ x ∧ x < (n : Int) := by
      intro nd
      induction nd with
      | nil => intro o h; exact h
      | cons a b ihb =>
        intro o ho
        refine ihb _ (fun x hx0 => ?_)
        have hx : x ∈ (if hasL o a then putL o z else o) := hx0
        split at hx
        · rcases mem_put.1 hx with rfl | hx
          · exact hst _ (by simp)
          · exact ho x hx
        · exact ho x hx
    exact key _ _ h x hx'

open Classical in
/-- What leads to one of some, rising. -/
noncomputable def touchS (ls : List (List Int)) (cs : List Int) : List Int := (upto ls.length).filter (fun y => decide (Up ls (· ∈ cs) y))
open Classical in
/-- What some lead to, rising. -/
noncomputable def needS (ls : List (List Int)) (cs : List Int) : List Int := (upto ls.length).filter (fun y => decide (Dn ls (· ∈ cs) y))
theorem mem_touchS {ls : List (List Int)} {cs : List Int} {y : Int} : y ∈ touchS ls cs ↔ (0 ≤ y ∧ y < (ls.length : Int)) ∧ Up ls (· ∈ cs) y := by
  unfold touchS; rw [List.mem_filter, mem_upto, @decide_eq_true_iff _ (Classical.propDecidable _)]
theorem mem_needS {ls : List (List Int)} {cs : List Int} {y : Int} : y ∈ needS ls cs ↔ (0 ≤ y ∧ y < (ls.length : Int)) ∧ Dn ls (· ∈ cs) y := by
  unfold needS; rw [List.mem_filter, mem_upto, @decide_eq_true_iff _ (Classical.propDecidable _)]
theorem filter_rise {p : Int → Bool} {l : List Int} (h : Rise l) : Rise (l.filter p) := List.Pairwise.filter p h
theorem touchS_rise (ls : List (List Int)) (cs : List Int) : Rise (touchS ls cs) := filter_rise (upto_rise _)
theorem needS_rise (ls : List (List Int)) (cs : List Int) : Rise (needS ls cs) := filter_rise (upto_rise _)
theorem touchS_len (ls : List (List Int)) (cs : List Int) : (touchS ls cs).length ≤ ls.length := by
  have := List.length_filter_le (fun y => @decide (Up ls (· ∈ cs) y) (Classical.propDecidable _)) (upto ls.length)
  rw [upto_len] at this; exact this
theorem needS_len (ls : List (List Int)) (cs : List Int) : (needS ls cs).length ≤ ls.length := by
  have := List.length_filter_le (fun y => @decide (Dn ls (· ∈ cs) y) (Classical.propDecidable _)) (upto ls.length)
  rw [upto_len] at this; exact this
theorem touchL_is {ls : List (List Int)} {l cs : List Int} (hg : GoodP ls l) (hr : Rise cs) (hc : ∀ x ∈ cs, 0 ≤ x ∧ x < (ls.length : Int)) : touchL ls cs l = touchS ls cs := by
  refine rise_ext (touchL_rise _ _ hr) (touchS_rise _ _) (fun x => ?_)
  rw [mem_touchS]
  constructor
  · intro h
    have hx := touchL_in ls.length hg.range hc x h
    exact ⟨hx, (touchL_mem hg x (hg.all.2 hx)).1 h⟩
  · rintro ⟨hx, h⟩
    exact (touchL_mem hg x (hg.all.2 hx)).2 h

/-- The reference's list of what is needed: one task seen. -/
def need1 (out nd : List Int) : List Int := nd.foldl putL out
theorem need1_mem {nd : List Int} : ∀ {out : List Int} {y : Int}, y ∈ need1 out nd ↔ y ∈ out ∨ y ∈ nd := by
  induction nd with
  | nil => intro out y; simp [need1]
  | cons z r ih =>
    intro out y
    show y ∈ need1 (putL out z) r ↔ _
    rw [ih, mem_put, List.mem_cons]
    constructor
    · rintro ((h | h) | h) <;> simp [h]
    · rintro (h | h | h) <;> simp [h]
theorem need1_rise (nd : List Int) : ∀ {out : List Int}, Rise out → Rise (need1 out nd) := by
  induction nd with
  | nil => intro out h; exact h
  | cons z r ih => intro out h; exact ih (put_rise h)
theorem need1_snoc (out nd : List Int) (x : Int) : need1 out (nd ++ [x]) = putL (need1 out nd) x := by
  unfold need1; rw [List.foldl_append]; rfl
/-- From the place k on to the end, seen from the back. -/
def needF (ls : List (List Int)) (cs : List Int) (st : List Int) : List Int := st.foldr (fun k o => if hasL o k then need1 o (needsAt ls k) else o) cs
theorem needF_rise (ls : List (List Int)) (cs : List Int) (h : Rise cs) (st : List Int) : Rise (needF ls cs st) := by
  induction st with
  | nil => exact h
  | cons z r ih =>
    show Rise (if hasL (needF ls cs r) z then need1 (needF ls cs r) (needsAt ls z) else needF ls cs r)
    split
    · exact need1_rise _ ih
    · exact ih
theorem needF_drop {ls : List (List Int)} {cs l : List Int} {k : Nat} (hk : k < l.length) : needF ls cs (l.drop k) = if hasL (needF ls cs (l.drop (k + 1))) l[k] then need1 (needF ls cs (l.drop (k + 1))) (needsAt ls l[k]) else needF ls cs (l.drop (k + 1)) := by
  rw [List.drop_eq_getElem_cons hk]; rfl
theorem needF_mem {ls : List (List Int)} {l : List Int} (hg : GoodP ls l) {cs : List Int} : ∀ y ∈ l, (y ∈ needF ls cs l ↔ Dn ls (· ∈ cs) y) := by
  have := dn_whole hg (P := (· ∈ cs)) (S := fun j y => y ∈ needF ls cs (l.drop (l.length - j))) (fun y _ => by simp [needF]) (fun k hk y _ => by
    show y ∈ needF ls cs (l.drop (l.length - (l.length - k))) ↔ y ∈ needF ls cs (l.drop (l.length - (l.length - (k + 1)))) ∨ (l[k] ∈ needF ls cs (l.drop (l.length - (l.length - (k + 1)))) ∧ _)
    rw [show l.length - (l.length - k) = k by omega, show l.length - (l.length - (k + 1)) = k + 1 by omega, needF_drop hk]
    by_cases h : l[k] ∈ needF ls cs (l.drop (k + 1))
    · have : hasL (needF ls cs (l.drop (k + 1))) l[k] = true := by simp [hasL, h]
      rw [this, if_pos rfl, need1_mem]
      simp [h]
    · have : hasL (needF ls cs (l.drop (k + 1))) l[k] = false := by simp [hasL, h]
      rw [this, if_neg (by simp)]
      simp [h])
  simpa using this
theorem needF_in {ls : List (List Int)} {n : Nat} {cs : List Int} (hls : ∀ k : Nat, ∀ x ∈ needsAt ls (k : Int), 0 ≤ x ∧ x < (n : Int)) (hc : ∀ x ∈ cs, 0 ≤ x ∧ x < (n : Int)) (st : List Int) (hst : ∀ x ∈ st, 0 ≤ x ∧ x < (n : Int)) : ∀ x ∈ needF ls cs st, 0 ≤ x ∧ x < (n : Int) := by
  induction st with
  | nil => exact hc
  | cons z r ih =>
    intro x hx
    have ih' := ih (fun x hx => hst x (by simp [hx]))
    have hz := hst z (by simp)
    have hx' : x ∈ (if hasL (needF ls cs r) z then need1 (needF ls cs r) (needsAt ls z) else needF ls cs r) := hx
    split at hx'
    · rcases need1_mem.1 hx' with h | h
      · exact ih' x h
      · exact hls z.toNat x (by rw [show ((z.toNat : Nat) : Int) = z by omega]; exact h)
    · exact ih' x hx'
theorem GoodP.needs_range {ls : List (List Int)} {l : List Int} (hg : GoodP ls l) (k : Nat) : ∀ x ∈ needsAt ls (k : Int), 0 ≤ x ∧ x < (ls.length : Int) := by
  intro x hx
  obtain ⟨i, hi, he⟩ := List.getElem_of_mem (hg.all.2 ⟨by omega, needs_in (by omega) hx⟩)
  exact hg.range x (List.mem_of_mem_take (hg.needs_take hi (by rw [he]; exact hx)))
theorem needF_is {ls : List (List Int)} {l cs : List Int} (hg : GoodP ls l) (hr : Rise cs) (hc : ∀ x ∈ cs, 0 ≤ x ∧ x < (ls.length : Int)) : needF ls cs l = needS ls cs := by
  refine rise_ext (needF_rise _ _ hr _) (needS_rise _ _) (fun x => ?_)
  rw [mem_needS]
  constructor
  · intro h
    have hx := needF_in hg.needs_range hc l hg.range x h
    exact ⟨hx, (needF_mem hg x (hg.all.2 hx)).1 h⟩
  · rintro ⟨hx, h⟩
    exact (needF_mem hg x (hg.all.2 hx)).2 h

/-- None that is not among some needs one of them. -/
def Shut (ls : List (List Int)) (cs : List Int) : Prop := ∀ u : Nat, u < ls.length → (u : Int) ∉ cs → ∀ x ∈ needsAt ls u, x ∉ cs
theorem shut_touch {ls : List (List Int)} {cs : List Int} (h : Shut ls cs) (hr : Rise cs) (hc : ∀ x ∈ cs, 0 ≤ x ∧ x < (ls.length : Int)) : touchS ls cs = cs := by
  refine rise_ext (touchS_rise _ _) hr (fun x => ?_)
  rw [mem_touchS]
  constructor
  · rintro ⟨hr0, hu⟩
    clear hr0
    induction hu with
    | base h => exact h
    | @step k x h0 hx _ ih =>
      have hk := needs_in h0 hx
      rcases Classical.em (k ∈ cs) with hm | hm
      · exact hm
      · exact absurd ih (h k.toNat (by omega) (by rw [show ((k.toNat : Nat) : Int) = k by omega]; exact hm) x (by rw [show ((k.toNat : Nat) : Int) = k by omega]; exact hx))
  · exact fun h => ⟨hc x h, .base h⟩
theorem rise_nodup {l : List Int} (h : Rise l) : l.Nodup := List.Pairwise.imp (fun h => by omega) h
theorem touch_shut {ls : List (List Int)} {cs : List Int} (hr : Rise cs) (hc : ∀ x ∈ cs, 0 ≤ x ∧ x < (ls.length : Int)) (h : (touchS ls cs).length = cs.length) : Shut ls cs := by
  intro u hu hn x hx hm
  have hm' : (u : Int) ∈ touchS ls cs := mem_touchS.2 ⟨by omega, .step (by omega) hx (.base hm)⟩
  have := nodup_sub (a := (u : Int) :: cs) (b := touchS ls cs) (List.nodup_cons.2 ⟨hn, rise_nodup hr⟩) (fun y hy => by
    rw [List.mem_cons] at hy
    rcases hy with rfl | hy
    · exact hm'
    · exact mem_touchS.2 ⟨hc y hy, .base hy⟩)
  rw [List.length_cons, h] at this
  omega
open Classical in
noncomputable def shutB (ls : List (List Int)) (cs : List Int) : Bool := decide (Shut ls cs)
theorem shutB_len {ls : List (List Int)} {cs : List Int} (hr : Rise cs) (hc : ∀ x ∈ cs, 0 ≤ x ∧ x < (ls.length : Int)) : decide ((touchS ls cs).length = cs.length) = shutB ls cs := by
  unfold shutB
  rw [Bool.eq_iff_iff, decide_eq_true_iff, @decide_eq_true_iff _ (Classical.propDecidable _)]
  exact ⟨touch_shut hr hc, fun h => by rw [shut_touch h hr hc]⟩
theorem sort_filter {s l : List Int} {n : Nat} {p : Int → Bool} (hn : l.Nodup) (hm : ∀ x, x ∈ l ↔ 0 ≤ x ∧ x < (n : Int)) (hp : s.Perm (l.filter p)) (hs : s.Pairwise (· ≤ ·)) : s = (upto n).filter p := by
  have hd : s.Nodup := hp.nodup_iff.2 (hn.filter p)
  have hr : Rise s := by
    unfold Rise
    have h2 := List.Pairwise.and hs hd
    exact h2.imp (fun h => by omega)
  refine rise_ext hr (filter_rise (upto_rise n)) (fun x => ?_)
  rw [hp.mem_iff, List.mem_filter, List.mem_filter, hm, mem_upto]
end Pth
end Go.Proofs.Ytgolhfmmlanmlaa

/- Walks: those that a test picks, in the order and rising; the test is a function value. -/
namespace Go.Proofs.Ytgolhfmmlanmlaa
open Go.RowKit Pth

/-- A yes-or-no, and only new memory is written. -/
def BoolB (b : Bool) (w : World) (e : Ending) (w' : World) : Prop := e = .returned (.bool b) ∧ Below w.heap.size w w'
/-- A function value that tells of each number of D whether p holds. -/
def TestV (w0 : World) (fv : Value) (D : Int → Prop) (p : Int → Bool) : Prop :=
  ∃ K cap, fv = .func (.func K) #[] cap ∧ (∀ args w, (callFunc K args).run Try.prog w = .ok (.enter K args) w) ∧ ∀ W, Below w0.heap.size w0 W → ∀ x, D x → Calls Try.prog K (#[.int .i64 x] ++ cap) W (BoolB (p x) W)
theorem TestV.below {w w' : World} {fv : Value} {D : Int → Prop} {p : Int → Bool} (h : TestV w fv D p) (hb : Below w.heap.size w w') : TestV w' fv D p := by
  obtain ⟨K, cap, h1, h2, h3⟩ := h
  exact ⟨K, cap, h1, h2, fun W hW x hx => h3 W (bth hb hW (Nat.le_refl _)) x hx⟩
theorem filter_yes {l : List Int} {p : Int → Bool} {k : Nat} (hk : k < l.length) (h : p l[k] = true) : (l.take (k + 1)).filter p = (l.take k).filter p ++ [l[k]] := by
  rw [List.take_succ_eq_append_getElem hk, List.filter_append, List.filter_cons, h]; rfl
theorem filter_no {l : List Int} {p : Int → Bool} {k : Nat} (hk : k < l.length) (h : p l[k] = false) : (l.take (k + 1)).filter p = (l.take k).filter p := by
  rw [List.take_succ_eq_append_getElem hk, List.filter_append, List.filter_cons, h]; simp

set_option maxRecDepth 20000 in
set_option maxHeartbeats 4000000 in
theorem ordered_any (ls : List (List Int)) (l : List Int) (p : Int → Bool) (v fv : Value) (w : World) (hst : GraphV w v ls l) (ht : TestV w fv (· ∈ l) p) (h10 : l.length ≤ 1000) :
    Calls Try.prog 71 #[v, fv] w (IntsPost w.heap.size (l.filter p) w) := by
  obtain ⟨nv, ov, rfl, h1, h2⟩ := hst
  obtain ⟨an, cn, rfl, hn1, hn2, _⟩ := h1.lists
  obtain ⟨ao, co, rfl, ho1, ho2, hao⟩ := h2.ints
  clear h1 h2
  unfold maxLen at hn2 ho2
  obtain ⟨K, cap, rfl, hent, ht⟩ := ht
  have HT := Lib.hid ht
  have HAO := Lib.hid hao
  clear hao ht
  obtain ⟨wa, hwa⟩ : ∃ wa, wa = w.alloc (.cells #[.slice an ls.length cn, .slice ao l.length co] 26) := ⟨_, rfl⟩
  have HA : Hid (Below w.heap.size w wa) := by rw [hwa]; exact (Below.refl w.heap.size w).alloc (Nat.le_refl _) _
  have HWA := Lib.hid hwa
  clear hwa
  go_enter Try.func71, Try.ntmps71
  go_wp2_with fail
  rw [← HWA.out]
  go_loopw [5, 11] (fun q i wr => ∃ k : Nat, k ≤ l.length ∧ i = .int .i64 k ∧ Hid (Below w.heap.size w wr) ∧ Hid (wr.ownsRow w.heap.size 3 1 q ((l.take k).filter p).length (I ((l.take k).filter p)))) (fun _ i _ => l.length - (intOf i).toNat)
  case atStart => exact ⟨0, Nat.zero_le _, rfl, HA, none_ownZ _ _ _⟩
  case round =>
    obtain ⟨k, hk, rfl, HB, HN⟩ := hrel
    by_cases hlt : k < l.length
    · obtain ⟨g, o, rfl, hg, hc⟩ := HAO.out k hlt
      have hc1 : wr.cell? ⟨g, o + k, none⟩ = some (.int .i64 l[k]) := by rw [HB.out.cell (p := ⟨g, o + k, none⟩) hg, hc]
      have HC := HT.out wr HB.out l[k] (List.getElem_mem hlt)
      have hfl : ((l.take k).filter p).length ≤ k := by have := List.length_filter_le p (l.take k); rw [List.length_take] at this; omega
      rcases hb : p l[k] with _ | _
      · have HE := Lib.hid (filter_no hlt hb)
        rw [hb] at HC
        have HCC := Lib.hid HC
        obtain ⟨qa, qc, hq⟩ := own_slice HN.out
        subst hq
        clear hc hb HC hfl
        generalize l[k] = x at *
        go_wp2_with fail
        refine HCC.out.mono ?_
        rintro e w2 ⟨rfl, hb2⟩
        have HB2 := Lib.hid (bth HB.out hb2 (Nat.le_refl _))
        have HN2 := Lib.hid (own_below HN.out hb2)
        clear hb2
        go_wp2_with fail
        go_roundw
        case rel => exact ⟨k + 1, by omega, by go_num, HB2, by rw [HE.out]; exact HN2.out⟩
        case measure => simp [intOf]; omega
      · have HE := Lib.hid (filter_yes hlt hb)
        rw [hb] at HC
        have HCC := Lib.hid HC
        have hIl : (I ((l.take k).filter p)).length ≤ 1000000 := by rw [I_len]; omega
        clear hc hb HC hfl
        generalize l[k] = x at *
        generalize (l.take k).filter p = m at *
        go_wp2_with fail
        refine HCC.out.mono ?_
        rintro e w2 ⟨rfl, hb2⟩
        have HB2 := Lib.hid (bth HB.out hb2 (Nat.le_refl _))
        have HNA := Lib.hid (own_Z (own_below HN.out hb2))
        clear hb2 HN
        go_wp2_with (at_builtin; refine wpAppOne elemI rfl _ _ rfl w.heap.size _ (I m) rfl HNA.out _ rfl rfl rfl hIl HB2.out.size ?_; intro v7 w7 hown7 hg7; have HN7 := Lib.hid (own_Z2 hown7); have HB7 := Lib.hid (HB2.out.trans (below_own HNA.out hg7 HB2.out.size)); clear hown7 hg7)
        go_roundw
        case rel => exact ⟨k + 1, by omega, by go_num, HB7, by rw [HE.out]; exact HN7.out⟩
        case measure => simp [intOf]; omega
    · rw [List.take_of_length_le (by omega)] at HN
      obtain ⟨qa, qc, hq⟩ := own_slice HN.out
      subst hq
      go_wp2_with fail
      go_ret
      exact ⟨_, rfl, HN.out, HB.out⟩
end Go.Proofs.Ytgolhfmmlanmlaa

/- Plain mathematics of recipes: ops, one step, a run, what is read, digests, texts; no program. -/
namespace Go.Proofs.Ytgolhfmmlanmlaa
namespace Pth

/-- An op: its kind, its number, its text. -/
abbrev OpT := Int × Int × List UInt8

def opOk (ins : Int) (o : OpT) : Bool :=
  if o.1 = 1 then decide (0 ≤ o.2.1) && decide (o.2.1 ≤ ins - 1) && decide (o.2.2 = [])
  else if o.1 = 2 then decide (o.2.1 = 0) && decide (o.2.2.length ≤ 10)
  else if o.1 = 5 then decide (0 ≤ o.2.1) && decide (o.2.1 ≤ 40) && decide (o.2.2 = [])
  else if o.1 = 3 ∨ o.1 = 4 ∨ o.1 = 6 ∨ o.1 = 7 then decide (o.2.1 = 0) && decide (o.2.2 = [])
  else false
def goodR (r : List OpT) (ins : Int) : Bool := decide (0 ≤ ins) && decide (ins ≤ 10) && decide (r.length ≤ 8) && r.all (opOk ins)
def textsL (l : List (List UInt8)) : Bool := l.all (fun x => decide (x.length ≤ 40)) && decide (l.length ≤ 10)

theorem goodR_iff {r : List OpT} {ins : Int} : goodR r ins = true ↔ 0 ≤ ins ∧ ins ≤ 10 ∧ r.length ≤ 8 ∧ r.all (opOk ins) = true := by
  simp only [goodR, Bool.and_eq_true, decide_eq_true_eq, and_assoc]
theorem goodR_ins {r : List OpT} {ins : Int} (h : ¬ (0 ≤ ins ∧ ins ≤ 10)) : goodR r ins = false := by
  rcases hg : goodR r ins with _ | _
  · rfl
  · exact absurd ⟨(goodR_iff.1 hg).1, (goodR_iff.1 hg).2.1⟩ h
theorem goodR_long {r : List OpT} {ins : Int} (h : 8 < r.length) : goodR r ins = false := by
  rcases hg : goodR r ins with _ | _
  · rfl
  · have := (goodR_iff.1 hg).2.2.1; omega
theorem goodR_bad {r : List OpT} {ins : Int} {k : Nat} (hk : k < r.length) (h : opOk ins r[k] = false) : goodR r ins = false := by
  rcases hg : goodR r ins with _ | _
  · rfl
  · have := List.all_eq_true.1 (goodR_iff.1 hg).2.2.2 _ (List.getElem_mem hk)
    rw [h] at this; cases this
theorem goodR_end {r : List OpT} {ins : Int} {k : Nat} (h0 : 0 ≤ ins) (h1 : ins ≤ 10) (h2 : r.length ≤ 8) (hk : r.length ≤ k) (h : (r.take k).all (opOk ins) = true) : goodR r ins = true := by
  rw [List.take_of_length_le hk] at h
  exact goodR_iff.2 ⟨h0, h1, h2, h⟩
theorem all_next {α : Type} {p : α → Bool} {l : List α} {k : Nat} (hk : k < l.length) (h0 : (l.take k).all p = true) (h : p l[k] = true) : (l.take (k + 1)).all p = true := by
  rw [List.take_succ_eq_append_getElem hk, List.all_append, h0]; simp [h]
theorem all_bad {α : Type} {p : α → Bool} {l : List α} {k : Nat} (hk : k < l.length) (h : p l[k] = false) : l.all p = false := by
  rw [List.all_eq_false]; exact ⟨l[k], List.getElem_mem hk, by simp [h]⟩
theorem all_end {α : Type} {p : α → Bool} {l : List α} {k : Nat} (hk : l.length ≤ k) (h : (l.take k).all p = true) : l.all p = true := by
  rwa [List.take_of_length_le hk] at h

/-- One op's kinds. -/
theorem opOk_cat {ins n : Int} {t : List UInt8} : opOk ins (1, n, t) = (decide (0 ≤ n) && decide (n ≤ ins - 1) && decide (t = [])) := by simp [opOk]
theorem opOk_text {ins n : Int} {t : List UInt8} : opOk ins (2, n, t) = (decide (n = 0) && decide (t.length ≤ 10)) := by simp [opOk]
theorem opOk_drop {ins n : Int} {t : List UInt8} : opOk ins (5, n, t) = (decide (0 ≤ n) && decide (n ≤ 40) && decide (t = [])) := by simp [opOk]
theorem opOk_bare {ins k n : Int} {t : List UInt8} (hk : k = 3 ∨ k = 4 ∨ k = 6 ∨ k = 7) : opOk ins (k, n, t) = (decide (n = 0) && decide (t = [])) := by
  rcases hk with rfl | rfl | rfl | rfl <;> simp [opOk]
theorem opOk_none {ins k n : Int} {t : List UInt8} (h1 : k ≠ 1) (h2 : k ≠ 2) (h3 : k ≠ 3) (h4 : k ≠ 4) (h5 : k ≠ 5) (h6 : k ≠ 6) (h7 : k ≠ 7) : opOk ins (k, n, t) = false := by
  simp [opOk, h1, h2, h3, h4, h5, h6, h7]
/-- What a good op is. -/
theorem opOk_cases {ins : Int} {o : OpT} (h : opOk ins o = true) :
    (∃ n : Nat, o = (1, (n : Int), []) ∧ (n : Int) ≤ ins - 1) ∨ (∃ t : List UInt8, o = (2, 0, t) ∧ t.length ≤ 10) ∨ o = (3, 0, []) ∨ o = (4, 0, []) ∨ (∃ n : Nat, o = (5, (n : Int), []) ∧ n ≤ 40) ∨ o = (6, 0, []) ∨ o = (7, 0, []) := by
  obtain ⟨k, n, t⟩ := o
  by_cases h1 : k = 1
  · subst h1
    simp only [opOk_cat, Bool.and_eq_true, decide_eq_true_eq] at h
    obtain ⟨⟨ha, hb⟩, rfl⟩ := h
    exact .inl ⟨n.toNat, by rw [show (n.toNat : Int) = n by omega], by omega⟩
  by_cases h2 : k = 2
  · subst h2
    simp only [opOk_text, Bool.and_eq_true, decide_eq_true_eq] at h
    obtain ⟨rfl, hb⟩ := h
    exact .inr (.inl ⟨t, rfl, hb⟩)
  by_cases h5 : k = 5
  · subst h5
    simp only [opOk_drop, Bool.and_eq_true, decide_eq_true_eq] at h
    obtain ⟨⟨ha, hb⟩, rfl⟩ := h
    exact .inr (.inr (.inr (.inr (.inl ⟨n.toNat, by rw [show (n.toNat : Int) = n by omega], by omega⟩))))
  by_cases h3 : k = 3 ∨ k = 4 ∨ k = 6 ∨ k = 7
  · rw [opOk_bare h3] at h
    simp only [Bool.and_eq_true, decide_eq_true_eq] at h
    obtain ⟨rfl, rfl⟩ := h
    rcases h3 with rfl | rfl | rfl | rfl <;> simp
  · have h3' : k ≠ 3 ∧ k ≠ 4 ∧ k ≠ 6 ∧ k ≠ 7 := by omega
    rw [opOk_none h1 h2 h3'.1 h3'.2.1 h5 h3'.2.2.1 h3'.2.2.2] at h
    cases h

def upB (c : UInt8) : UInt8 := if 97 ≤ c.toNat ∧ c.toNat ≤ 122 then c - 32 else c
def upT (l : List UInt8) : List UInt8 := l.map upB
def sortT (l : List UInt8) : List UInt8 := l.mergeSort (fun a b => decide (a ≤ b))
def Sorted8 (l : List UInt8) : Prop := l.Pairwise (· ≤ ·)
theorem sortT_perm (l : List UInt8) : (sortT l).Perm l := List.mergeSort_perm _ _
theorem le8_total (a b : UInt8) : a ≤ b ∨ b ≤ a := by
  simp only [UInt8.le_iff_toNat_le]; omega
theorem le8_trans {a b c : UInt8} (h : a ≤ b) (k : b ≤ c) : a ≤ c := by
  simp only [UInt8.le_iff_toNat_le] at *; omega
theorem sortT_sorted (l : List UInt8) : Sorted8 (sortT l) := by
  have := List.pairwise_mergeSort (le := fun a b : UInt8 => decide (a ≤ b)) (fun a b c h1 h2 => by simp only [decide_eq_true_eq] at *; exact le8_trans h1 h2) (fun a b => by simpa using le8_total a b) l
  exact this.imp (fun h => by simpa using h)
theorem sort_unique {a b : List UInt8} (hp : a.Perm b) (ha : Sorted8 a) (hb : Sorted8 b) : a = b :=
  hp.eq_of_pairwise (le := fun a b : UInt8 => a ≤ b) (fun a b _ _ h1 h2 => by
    apply UInt8.toNat.inj
    simp only [UInt8.le_iff_toNat_le] at h1 h2
    omega) ha hb
theorem sortT_is {a l : List UInt8} (hp : a.Perm l) (ha : Sorted8 a) : a = sortT l := sort_unique (hp.trans (sortT_perm l).symm) ha (sortT_sorted l)
theorem sortT_len (l : List UInt8) : (sortT l).length = l.length := (sortT_perm l).length_eq
theorem upT_len (l : List UInt8) : (upT l).length = l.length := by simp [upT]

def digB (n : Nat) : UInt8 := UInt8.ofNat (48 + n)
/-- A number below 100 as text. -/
def numT (n : Nat) : List UInt8 := if n < 10 then [digB n] else [digB (n / 10), digB (n % 10)]
theorem numT_len (n : Nat) : (numT n).length ≤ 2 := by unfold numT; split <;> simp

/-- What an op makes of a text, however long that is; none where it fails. -/
def rawT (o : OpT) (ins : List (List UInt8)) (acc : List UInt8) : Option (List UInt8) :=
  if o.1 = 1 then some (acc ++ (ins[o.2.1.toNat]?).getD [])
  else if o.1 = 2 then some (acc ++ o.2.2)
  else if o.1 = 3 then some (upT acc)
  else if o.1 = 4 then some (sortT acc)
  else if o.1 = 5 then some (acc.drop o.2.1.toNat)
  else if o.1 = 6 then some (numT acc.length)
  else none
def capT (x : List UInt8) : Option (List UInt8) := if x.length ≤ 40 then some x else none
def stepT (o : OpT) (ins : List (List UInt8)) (acc : List UInt8) : Option (List UInt8) := (rawT o ins acc).bind capT
def runT (ins : List (List UInt8)) : List OpT → List UInt8 → Option (List UInt8)
  | [], acc => some acc
  | o :: t, acc => (stepT o ins acc).bind (runT ins t)
theorem capT_some {x y : List UInt8} (h : capT x = some y) : y = x ∧ x.length ≤ 40 := by
  unfold capT at h
  split at h
  · simp only [Option.some.injEq] at h; exact ⟨h.symm, by assumption⟩
  · cases h
theorem stepT_len {o : OpT} {ins : List (List UInt8)} {acc y : List UInt8} (h : stepT o ins acc = some y) : y.length ≤ 40 := by
  unfold stepT at h
  rcases hr : rawT o ins acc with _ | x
  · rw [hr] at h; cases h
  · rw [hr] at h
    obtain ⟨rfl, hl⟩ := capT_some h
    exact hl
theorem run_step {ins : List (List UInt8)} {r : List OpT} {k : Nat} (hk : k < r.length) (acc : List UInt8) : runT ins (r.drop k) acc = (stepT r[k] ins acc).bind (runT ins (r.drop (k + 1))) := by
  rw [List.drop_eq_getElem_cons hk]; rfl
theorem runT_len {ins : List (List UInt8)} {r : List OpT} {acc y : List UInt8} (ha : acc.length ≤ 40) (h : runT ins r acc = some y) : y.length ≤ 40 := by
  induction r generalizing acc with
  | nil => simp only [runT, Option.some.injEq] at h; subst h; exact ha
  | cons o t ih =>
    simp only [runT] at h
    rcases hs : stepT o ins acc with _ | x
    · rw [hs] at h; cases h
    · rw [hs] at h
      exact ih (stepT_len hs) h
/-- The text behind, empty where it failed. -/
def txtO (x : Option (List UInt8)) : List UInt8 := x.getD []

/-- StepRecipe, RunRecipe: as told. -/
def stepOk (o : OpT) (ins : List (List UInt8)) (acc : List UInt8) : Bool := textsL ins && opOk ins.length o && decide (acc.length ≤ 40)
def runOk (r : List OpT) (ins : List (List UInt8)) : Bool := textsL ins && goodR r ins.length
def stepA (o : OpT) (ins : List (List UInt8)) (acc : List UInt8) : Option (List UInt8) := if stepOk o ins acc then stepT o ins acc else none
def runA (r : List OpT) (ins : List (List UInt8)) : Option (List UInt8) := if runOk r ins then runT ins r [] else none

/-- What is read. -/
def read1 (out : List Int) (o : OpT) : List Int := if o.1 = 1 then putL out o.2.1 else out
def readsL (r : List OpT) : List Int := r.foldl read1 []
def readsA (r : List OpT) : List Int := if goodR r 10 then readsL r else []
def catsL (r : List OpT) : List Int := r.filterMap (fun o => if o.1 = 1 then some o.2.1 else none)
theorem reads_fold_rise (r : List OpT) {out : List Int} (h : Rise out) : Rise (r.foldl read1 out) := by
  induction r generalizing out with
  | nil => exact h
  | cons o t ih =>
    refine ih ?_
    unfold read1
    split
    · exact put_rise h
    · exact h
theorem reads_rise (r : List OpT) : Rise (readsL r) := reads_fold_rise r .nil
theorem reads_fold_mem (r : List OpT) {out : List Int} {x : Int} : x ∈ r.foldl read1 out ↔ x ∈ out ∨ x ∈ catsL r := by
  induction r generalizing out with
  | nil => simp [catsL]
  | cons o t ih =>
    rw [List.foldl_cons, ih]
    unfold read1 catsL
    by_cases h : o.1 = 1
    · simp only [if_pos h, mem_put, List.filterMap_cons, List.mem_cons]
      constructor
      · rintro ((h | h) | h)
        · exact .inr (.inl h)
        · exact .inl h
        · exact .inr (.inr h)
      · rintro (h | (h | h))
        · exact .inl (.inr h)
        · exact .inl (.inl h)
        · exact .inr h
    · simp only [if_neg h, List.filterMap_cons]
theorem mem_reads {r : List OpT} {x : Int} : x ∈ readsL r ↔ x ∈ catsL r := by
  rw [readsL, reads_fold_mem]; simp
theorem reads_is {r : List OpT} {l : List Int} (hr : Rise l) (h : ∀ x, x ∈ l ↔ x ∈ catsL r) : l = readsL r :=
  rise_ext hr (reads_rise r) (fun x => (h x).trans mem_reads.symm)
theorem reads_next {r : List OpT} {k : Nat} (hk : k < r.length) : (r.take (k + 1)).foldl read1 [] = read1 ((r.take k).foldl read1 []) r[k] := by
  rw [List.take_succ_eq_append_getElem hk, List.foldl_append]; rfl
theorem cats_next {r : List OpT} {k : Nat} (hk : k < r.length) : catsL (r.take (k + 1)) = catsL (r.take k) ++ (if r[k].1 = 1 then [r[k].2.1] else []) := by
  rw [List.take_succ_eq_append_getElem hk]
  unfold catsL
  rw [List.filterMap_append]
  by_cases h : r[k].1 = 1 <;> simp [h]
theorem cats_len (r : List OpT) : (catsL r).length ≤ r.length := List.length_filterMap_le _ _

/-- Digests. -/
def dig1 (d : Int) (c : UInt8) : Int := (31 * d + (c.toNat : Int)) % 1000003
def digL (s : List UInt8) : Int := s.foldl dig1 7
def digA (s : List UInt8) : Int := if s.length ≤ 100 then digL s else 0
theorem dig_bound (s : List UInt8) : 0 ≤ digL s ∧ digL s < 1000003 := by
  have : ∀ (l : List UInt8) (d : Int), 0 ≤ d ∧ d < 1000003 → 0 ≤ l.foldl dig1 d ∧ l.foldl dig1 d < 1000003 := by
    intro l
    induction l with
    | nil => exact fun d h => h
    | cons c t ih => exact fun d _ => ih _ (by unfold dig1; omega)
  exact this s 7 (by omega)
theorem dig_next {s : List UInt8} {k : Nat} (hk : k < s.length) : digL (s.take (k + 1)) = (31 * digL (s.take k) + (s[k].toNat : Int)) % 1000003 := by
  rw [digL, List.take_succ_eq_append_getElem hk, List.foldl_append]; rfl

/-- A recipe as text. -/
def byteI (x : Int) : UInt8 := UInt8.ofNat x.toNat
def text1 (o : OpT) : List UInt8 := [byteI o.1, byteI o.2.1, byteI (o.2.2.length : Int)] ++ o.2.2
def textR (r : List OpT) : List UInt8 := r.flatMap text1
def textA (r : List OpT) : List UInt8 := if goodR r 10 then textR r else []
theorem text_next {r : List OpT} {k : Nat} (hk : k < r.length) : textR (r.take (k + 1)) = textR (r.take k) ++ text1 r[k] := by
  rw [textR, List.take_succ_eq_append_getElem hk, List.flatMap_append]; simp [textR]
theorem byteI_inj {x y : Int} (hx : 0 ≤ x ∧ x ≤ 255) (hy : 0 ≤ y ∧ y ≤ 255) (h : byteI x = byteI y) : x = y := by
  have := congrArg UInt8.toNat h
  simp only [byteI, UInt8.toNat_ofNat'] at this
  omega
def Small1 (o : OpT) : Prop := (1 ≤ o.1 ∧ o.1 ≤ 7) ∧ (0 ≤ o.2.1 ∧ o.2.1 ≤ 40) ∧ o.2.2.length ≤ 10
theorem small_of {ins : Int} {o : OpT} (hi : ins ≤ 10) (h : opOk ins o = true) : Small1 o := by
  unfold Small1
  rcases opOk_cases h with ⟨n, rfl, hn⟩ | ⟨t, rfl, ht⟩ | rfl | rfl | ⟨n, rfl, hn⟩ | rfl | rfl <;> simp <;> omega
theorem text1_inj {a b : OpT} {x y : List UInt8} (ha : Small1 a) (hb : Small1 b) (h : text1 a ++ x = text1 b ++ y) : a = b ∧ x = y := by
  obtain ⟨k, n, t⟩ := a
  obtain ⟨k', n', t'⟩ := b
  simp only [Small1] at ha hb
  simp only [text1, List.cons_append, List.nil_append, List.cons.injEq] at h
  obtain ⟨h1, h2, h3, h4⟩ := h
  have e1 := byteI_inj (by omega) (by omega) h1
  have e2 := byteI_inj (by omega) (by omega) h2
  have e3 : t.length = t'.length := by have := byteI_inj (by omega) (by omega) h3; omega
  obtain ⟨e4, e5⟩ := List.append_inj h4 e3
  exact ⟨by rw [e1, e2, e4], e5⟩
theorem textR_inj : ∀ {r q : List OpT}, (∀ o ∈ r, Small1 o) → (∀ o ∈ q, Small1 o) → textR r = textR q → r = q
  | [], [], _, _, _ => rfl
  | [], b :: q, _, _, h => by simp [textR, text1] at h
  | a :: r, [], _, _, h => by simp [textR, text1] at h
  | a :: r, b :: q, hr, hq, h => by
    simp only [textR, List.flatMap_cons] at h
    obtain ⟨e1, e2⟩ := text1_inj (hr a (by simp)) (hq b (by simp)) h
    have := textR_inj (r := r) (q := q) (fun o ho => hr o (by simp [ho])) (fun o ho => hq o (by simp [ho])) e2
    rw [e1, this]
theorem good_small {r : List OpT} {ins : Int} (h : goodR r ins = true) : ∀ o ∈ r, Small1 o := fun o ho =>
  small_of (goodR_iff.1 h).2.1 (List.all_eq_true.1 (goodR_iff.1 h).2.2.2 o ho)
theorem text_same {r q : List OpT} (hr : goodR r 10 = true) (hq : goodR q 10 = true) : decide (r = q) = decide (textA q = textA r) := by
  rw [textA, textA, if_pos hr, if_pos hq]
  by_cases h : r = q
  · subst h; simp
  · rw [decide_eq_false h, decide_eq_false]
    exact fun e => h (textR_inj (good_small hr) (good_small hq) e.symm)
theorem text1_len {o : OpT} (h : Small1 o) : (text1 o).length ≤ 13 := by
  simp [text1]; exact h.2.2
theorem textR_len {r : List OpT} (h : ∀ o ∈ r, Small1 o) : (textR r).length ≤ 13 * r.length := by
  induction r with
  | nil => simp [textR]
  | cons o t ih =>
    have h1 := text1_len (h o (by simp))
    have h2 := ih (fun o ho => h o (by simp [ho]))
    simp only [textR, List.flatMap_cons, List.length_append, List.length_cons] at h2 ⊢
    omega

/-- What two lists have alike for a recipe. -/
def sameL (r : List OpT) (a b : List (List UInt8)) : Bool := r.all (fun o => decide (o.1 = 1 → (a[o.2.1.toNat]?).getD [] = (b[o.2.1.toNat]?).getD []))
theorem raw_same {o : OpT} {a b : List (List UInt8)} (h : o.1 = 1 → (a[o.2.1.toNat]?).getD [] = (b[o.2.1.toNat]?).getD []) (acc : List UInt8) : rawT o a acc = rawT o b acc := by
  unfold rawT
  by_cases h1 : o.1 = 1
  · rw [if_pos h1, if_pos h1, h h1]
  · rw [if_neg h1, if_neg h1]
theorem run_same {r : List OpT} {a b : List (List UInt8)} (h : sameL r a b = true) (acc : List UInt8) : runT a r acc = runT b r acc := by
  induction r generalizing acc with
  | nil => rfl
  | cons o t ih =>
    simp only [sameL, List.all_cons, Bool.and_eq_true, decide_eq_true_eq] at h
    simp only [runT, stepT, raw_same h.1]
    exact congrArg _ (funext fun x => ih h.2 x)

end Pth
end Go.Proofs.Ytgolhfmmlanmlaa

/- Plain mathematics: what is sorted and has no two alike any more; no program. -/
namespace Go.Proofs.Ytgolhfmmlanmlaa
namespace Pth
open Go.Lib

def sortI (l : List Int) : List Int := l.mergeSort fun x y => decide (x ≤ y)
theorem sortI_perm (l : List Int) : (sortI l).Perm l := List.mergeSort_perm _ _
theorem sortI_sorted (l : List Int) : (sortI l).Pairwise (· ≤ ·) := by
  have := List.pairwise_mergeSort (le := fun a b : Int => decide (a ≤ b)) (fun a b c h1 h2 => by simp only [decide_eq_true_eq] at *; omega) (fun a b => by simp only [Bool.or_eq_true, decide_eq_true_eq]; omega) l
  exact this.imp (fun h => by simpa using h)
theorem get_bang {l : List Int} {j : Nat} (hj : j < l.length) : l.toArray[j]! = l[j] := by
  simp [hj]
theorem mem_compact {l : List Int} {x : Int} : x ∈ compact l ↔ x ∈ l := by
  unfold compact compactUpTo
  constructor
  · intro h
    obtain ⟨j, hj, rfl⟩ := List.mem_map.1 h
    have hj' := List.mem_range.1 (List.mem_filter.1 hj).1
    rw [get_bang hj']
    exact List.getElem_mem hj'
  · intro h
    have key : ∀ j : Nat, (hj : j < l.length) → l[j] = x → x ∈ ((List.range l.length).filter (keeps l.toArray)).map (l.toArray[·]!) := by
      intro j
      induction j with
      | zero =>
        intro hj hx
        refine List.mem_map.2 ⟨0, List.mem_filter.2 ⟨List.mem_range.2 hj, by simp [keeps]⟩, by rw [get_bang hj]; exact hx⟩
      | succ j ih =>
        intro hj hx
        by_cases he : l[j] = x
        · exact ih (by omega) he
        · refine List.mem_map.2 ⟨j + 1, List.mem_filter.2 ⟨List.mem_range.2 hj, ?_⟩, by rw [get_bang hj]; exact hx⟩
          apply keeps_pos
          rw [get_bang hj, Nat.add_sub_cancel, get_bang (by omega : j < l.length), hx]
          exact fun h => he h.symm
    obtain ⟨j, hj, hx⟩ := List.mem_iff_getElem.1 h
    exact key j hj hx
theorem compact_rise {l : List Int} (h : l.Pairwise (· ≤ ·)) : Rise (compact l) := by
  unfold compact compactUpTo Rise
  rw [List.pairwise_map]
  refine List.Pairwise.imp_of_mem (R := fun a b => a < b) ?_ (List.pairwise_lt_range.filter _)
  intro i j hi hj hlt
  have hi' := List.mem_range.1 (List.mem_filter.1 hi).1
  have hj' := List.mem_range.1 (List.mem_filter.1 hj).1
  have hk := (List.mem_filter.1 hj).2
  rw [get_bang hi', get_bang hj']
  have hne : l[j] ≠ l[j - 1] := by
    simp only [keeps, decide_eq_true_eq] at hk
    rcases hk with h0 | h0
    · omega
    · rwa [get_bang hj', get_bang (by omega : j - 1 < l.length)] at h0
  have h1 : l[j - 1] ≤ l[j] := List.pairwise_iff_getElem.1 h (j - 1) j (by omega) hj' (by omega)
  have h2 : l[i] ≤ l[j - 1] := by
    by_cases e : i = j - 1
    · subst e; exact Int.le_refl _
    · exact List.pairwise_iff_getElem.1 h i (j - 1) hi' (by omega) (by omega)
  omega
theorem compact_reads (r : List OpT) : compact (sortI (catsL r)) = readsL r :=
  reads_is (compact_rise (sortI_sorted _)) (fun x => by rw [mem_compact]; exact (sortI_perm _).mem_iff)

end Pth
end Go.Proofs.Ytgolhfmmlanmlaa

/- The library's contracts that the walks use, at this program: each an application of the shelf's; each structure's fields are facts of the loaded program. -/
namespace Go.Proofs
open Go.Shelf Go.RowKit Go.Sort Go.Lib
def Try.lays189_ren : Go.Shelf.Ren := ⟨fun | 189 => 72 | 125 => 90 | 257 => 89 | 128 => 109 | 129 => 110 | 294 => 100 | 295 => 101 | 296 => 102 | 297 => 103 | 298 => 104 | 299 => 105 | 216 => 106 | 300 => 107 | 301 => 108 | 328 => 112 | 329 => 113 | 330 => 114 | 331 => 115 | 332 => 116 | 215 => 117 | 343 => 118 | n => n, fun | 28 => 24 | 3 => 3 | 46 => 86 | 0 => 0 | 51 => 101 | 53 => 63 | 4 => 4 | 183 => 94 | 182 => 93 | 131 => 98 | 5 => 5 | 9 => 9 | 218 => 103 | 222 => 107 | 228 => 109 | 229 => 110 | n => n, fun | n => n⟩
theorem Try.lays189 : Go.Proofs.Lays.n189 Try.prog Try.lays189_ren := {
  mixed := by kernel_rfl
  f125 := Try.func90.trans (congrArg some (by kernel_rfl))
  f128 := Try.func109.trans (congrArg some (by kernel_rfl))
  f129 := Try.func110.trans (congrArg some (by kernel_rfl))
  f189 := Try.func72.trans (congrArg some (by kernel_rfl))
  f215 := Try.func117.trans (congrArg some (by kernel_rfl))
  f216 := Try.func106.trans (congrArg some (by kernel_rfl))
  f257 := Try.func89.trans (congrArg some (by kernel_rfl))
  f294 := Try.func100.trans (congrArg some (by kernel_rfl))
  f295 := Try.func101.trans (congrArg some (by kernel_rfl))
  f296 := Try.func102.trans (congrArg some (by kernel_rfl))
  f297 := Try.func103.trans (congrArg some (by kernel_rfl))
  f298 := Try.func104.trans (congrArg some (by kernel_rfl))
  f299 := Try.func105.trans (congrArg some (by kernel_rfl))
  f300 := Try.func107.trans (congrArg some (by kernel_rfl))
  f301 := Try.func108.trans (congrArg some (by kernel_rfl))
  f328 := Try.func112.trans (congrArg some (by kernel_rfl))
  f329 := Try.func113.trans (congrArg some (by kernel_rfl))
  f330 := Try.func114.trans (congrArg some (by kernel_rfl))
  f331 := Try.func115.trans (congrArg some (by kernel_rfl))
  f332 := Try.func116.trans (congrArg some (by kernel_rfl))
  f343 := Try.func118.trans (congrArg some (by kernel_rfl))
  t0 := Try.underlying0
  a0 := Try.isAgg0
  z0 := Try.sizeOf0
  v0 := Try.zeroValue0
  t3 := Try.underlying3
  a3 := Try.isAgg3
  z3 := Try.sizeOf3
  v3 := Try.zeroValue3
  t4 := Try.underlying4
  a4 := Try.isAgg4
  z4 := Try.sizeOf4
  v4 := Try.zeroValue4
  t5 := Try.underlying5
  a5 := Try.isAgg5
  z5 := Try.sizeOf5
  v5 := Try.zeroValue5
  t9 := Try.underlying9
  a9 := Try.isAgg9
  z9 := Try.sizeOf9
  v9 := Try.zeroValue9
  t28 := Try.underlying24
  a28 := Try.isAgg24
  z28 := Try.sizeOf24
  v28 := Try.zeroValue24
  t46 := Try.underlying86
  a46 := Try.isAgg86
  z46 := Try.sizeOf86
  v46 := Try.zeroValue86
  t51 := Try.underlying101
  a51 := Try.isAgg101
  z51 := Try.sizeOf101
  v51 := Try.zeroValue101
  t53 := Try.underlying63
  a53 := Try.isAgg63
  z53 := Try.sizeOf63
  v53 := Try.zeroValue63
  t131 := Try.underlying98
  a131 := Try.isAgg98
  z131 := Try.sizeOf98
  v131 := Try.zeroValue98
  t182 := Try.underlying93
  a182 := Try.isAgg93
  z182 := Try.sizeOf93
  v182 := Try.zeroValue93
  t183 := Try.underlying94
  a183 := Try.isAgg94
  z183 := Try.sizeOf94
  v183 := Try.zeroValue94
  t218 := Try.underlying103
  a218 := Try.isAgg103
  z218 := Try.sizeOf103
  v218 := Try.zeroValue103
  t222 := Try.underlying107
  a222 := Try.isAgg107
  z222 := Try.sizeOf107
  v222 := Try.zeroValue107
  t228 := Try.underlying109
  a228 := Try.isAgg109
  z228 := Try.sizeOf109
  v228 := Try.zeroValue109
  t229 := Try.underlying110
  a229 := Try.isAgg110
  z229 := Try.sizeOf110
  v229 := Try.zeroValue110 }
theorem Try.slices_Sort_int (blk off cap : Nat) (zs : List Int) (w : World) (hH : Holds (Value.int .i64) w blk off zs.toArray) (hblk : blk < w.heap.size) (hsz : zs.length < 4611686018427387904) :
    Calls Try.prog 72 #[.slice (some ⟨blk, off, none⟩) zs.length cap] w fun e w' =>
      e = .returned (.tuple #[]) ∧ ∃ n os, w' = grow (putRow (Value.int .i64) (Sort.ahead w n) blk off (zs.mergeSort fun x y => decide (x ≤ y)).toArray) os := Any.slices_Sort_int Try.lays189 blk off cap zs w hH hblk hsz
def Try.lays112_ren : Go.Shelf.Ren := ⟨fun | 112 => 53 | n => n, fun | 28 => 24 | 3 => 3 | 4 => 4 | 0 => 0 | n => n, fun | n => n⟩
theorem Try.lays112 : Go.Proofs.Lays.n112 Try.prog Try.lays112_ren := {
  mixed := by kernel_rfl
  f112 := Try.func53.trans (congrArg some (by kernel_rfl))
  t0 := Try.underlying0
  a0 := Try.isAgg0
  z0 := Try.sizeOf0
  v0 := Try.zeroValue0
  t3 := Try.underlying3
  a3 := Try.isAgg3
  z3 := Try.sizeOf3
  v3 := Try.zeroValue3
  t4 := Try.underlying4
  a4 := Try.isAgg4
  z4 := Try.sizeOf4
  v4 := Try.zeroValue4
  t28 := Try.underlying24
  a28 := Try.isAgg24
  z28 := Try.sizeOf24
  v28 := Try.zeroValue24 }
theorem Try.slices_Reverse_int (blk off cap : Nat) (zs : List Int) (w : World) (hH : Holds (Value.int .i64) w blk off zs.toArray) (hsz : zs.length ≤ 9223372036854775807) :
    Calls Try.prog 53 #[.slice (some ⟨blk, off, none⟩) zs.length cap] w fun e w' => e = .returned (.tuple #[]) ∧ ∃ n, w' = putRow (Value.int .i64) (Sort.ahead w n) blk off zs.reverse.toArray := Any.slices_Reverse_int Try.lays112 blk off cap zs w hH hsz
def Try.laysNm215_ren : Go.Shelf.Ren := ⟨fun | 15 => 58 | n => n, fun | 22 => 24 | 3 => 3 | 4 => 4 | n => n, fun | n => n⟩
theorem Try.laysNm215 : Go.Proofs.Lays2.n15 Try.prog Try.laysNm215_ren := {
  mixed := by kernel_rfl
  f15 := Try.func58.trans (congrArg some (by kernel_rfl))
  t3 := Try.underlying3
  a3 := Try.isAgg3
  z3 := Try.sizeOf3
  v3 := Try.zeroValue3
  t4 := Try.underlying4
  a4 := Try.isAgg4
  z4 := Try.sizeOf4
  v4 := Try.zeroValue4
  t22 := Try.underlying24
  a22 := Try.isAgg24
  z22 := Try.sizeOf24
  v22 := Try.zeroValue24
  i3 := by kernel_rfl }
theorem Try.slices_Clone_int (b off n c : Nat) (zs : List Int) (w : World) (hz : n ≤ zs.length) (hbig : n * 8 ≤ 140737488355328) (hc : ∀ j, j < zs.length → w.cell? ⟨b, off + j, none⟩ = some (.int .i64 (zs.getD j 0))) :
    Calls Try.prog 58 #[.slice (some ⟨b, off, none⟩) n c] w fun e w' => ∃ v', e = .returned v' ∧ w'.ownsRow w.heap.size 3 1 v' n ((zs.take n).map (Value.int .i64)) ∧ v' ≠ .slice none 0 0 ∧ Below w.heap.size w w' := Any.slices_Clone_int Try.laysNm215 b off n c zs w hz hbig hc
theorem Try.slices_Clone_int_nil (n c : Nat) (w : World) :
    Calls Try.prog 58 #[.slice none n c] w fun e w' => e = .returned (.slice none 0 0) ∧ w' = w := Any.slices_Clone_int_nil Try.laysNm215 n c w
theorem Try.slices_Clone_int_zero (a : Addr) (c : Nat) (w : World) :
    Calls Try.prog 58 #[.slice (some a) 0 c] w fun e w' => ∃ v', e = .returned v' ∧ w'.ownsRow w.heap.size 3 1 v' 0 [] ∧ v' ≠ .slice none 0 0 ∧ Below w.heap.size w w' := Any.slices_Clone_int_zero Try.laysNm215 a c w
theorem Try.slices_Sort_int_none (p : Option Addr) (cap : Nat) (w : World) :
    Calls Try.prog 72 #[.slice p 0 cap] w fun e w' => e = .returned (.tuple #[]) ∧ w' = w := Any.slices_Sort_int_none Try.lays189 p cap w
end Go.Proofs

/- Numbers in memory of the call's own: sorted, and without two alike, by the library. -/
namespace Go.Proofs.Ytgolhfmmlanmlaa
open Go.RowKit Pth Go.Lib Go.Sort

theorem I_enc (l : List Int) : I l = l.map (Value.int .i64) := rfl
theorem sortI_len (l : List Int) : (sortI l).length = l.length := (sortI_perm l).length_eq
theorem sortInts_any (l : List Int) (v : Value) (B : Nat) (w : World) (hown : w.ownsRow B 3 1 v l.length (I l)) (hl : l.length ≤ 1000000) (hB : B ≤ w.heap.size) :
    Calls Try.prog 72 #[v] w fun e w' => e = .returned (.tuple #[]) ∧ w'.ownsRow B 3 1 v (sortI l).length (I (sortI l)) ∧ Below B w w' := by
  rcases hown.2 with ⟨hv, h0⟩ | ⟨g, cap, cur, hv, hBg, hh, h1, h2, h3, h4⟩
  · subst hv
    have h00 : l = [] := List.eq_nil_of_length_eq_zero h0
    subst h00
    refine (Try.slices_Sort_int_none none 0 w).mono fun e w' ⟨he, hw⟩ => ?_
    subst hw
    rw [show sortI [] = [] by simp [sortI]]
    exact ⟨he, hown, Below.refl _ _⟩
  · subst hv
    have hH := holds_of_blockI (ss := l) hh (by rw [Nat.mul_one] at h4; rw [← I_enc]; exact h4)
    refine (Try.slices_Sort_int g 0 cap l w hH (lt_of_block hh) (by omega)).mono ?_
    rintro e w' ⟨he, n, os, rfl⟩
    refine ⟨he, ?_, (Below.refl B w).grown (grownBy_sortedI _) hB (fun k hk => by cases hk; exact hBg)⟩
    have := ownsRow_sortedI (base := B) (n := n) (os := os) (ss := l) (ts := sortI l) (sortI_len l) hBg hh h1 h2 h3
    rw [sortI_len, I_enc]
    exact this
theorem compact_len (l : List Int) : (compact l).length ≤ l.length := compact_length_le l
end Go.Proofs.Ytgolhfmmlanmlaa

/- Walks: risingWhere, areTasks, slices.ContainsFunc at a function value, the test whether a number is among some. -/
namespace Go.Proofs.Ytgolhfmmlanmlaa
open Go.RowKit Pth

theorem rising_is {ls : List (List Int)} {l : List Int} (hg : GoodP ls l) (p : Int → Bool) : sortI (l.filter p) = (upto ls.length).filter p :=
  sort_filter hg.nodup (fun _ => hg.all) (sortI_perm _) (sortI_sorted _)

set_option maxRecDepth 20000 in
set_option maxHeartbeats 2000000 in
theorem rising_any (ls : List (List Int)) (l : List Int) (p : Int → Bool) (v fv : Value) (w : World) (hst : GraphV w v ls l) (ht : TestV w fv (· ∈ l) p) (hg : GoodP ls l) :
    Calls Try.prog 40 #[v, fv] w (IntsPost w.heap.size ((upto ls.length).filter p) w) := by
  have HV := Lib.hid hst
  have HT := Lib.hid ht
  have HE := Lib.hid (rising_is hg p)
  have h10 : l.length ≤ 10 := by have := hg.same; have := hg.high; omega
  obtain ⟨nv, ov, rfl, h1, h2⟩ := hst
  obtain ⟨an, cn, rfl, hn1, hn2, _⟩ := h1.lists
  obtain ⟨ao, co, rfl, ho1, ho2, _⟩ := h2.ints
  clear h1 h2 ht hg
  unfold maxLen at hn2 ho2
  obtain ⟨wa, hwa⟩ : ∃ wa, wa = w.alloc (.cells #[.slice an ls.length cn, .slice ao l.length co] 26) := ⟨_, rfl⟩
  have P0 : Hid (Blk2 wa w.heap.size 26 (.slice an ls.length cn) (.slice ao l.length co)) := by rw [hwa]; exact Blk2.new
  have HA : Hid (Below w.heap.size w wa) := by rw [hwa]; exact (Below.refl w.heap.size w).alloc (Nat.le_refl _) _
  have HWA := Lib.hid hwa
  have c0 := P0.out.cells.1
  have c1 := P0.out.cells.2
  have HC := Lib.hid (ordered_any ls l p _ fv wa (HV.out.below HA.out) (HT.out.below HA.out) (by omega))
  have hfl : (l.filter p).length ≤ 10 := by have := List.length_filter_le p l; omega
  have HS := Lib.hid (fun u B W ho hB => sortInts_any (l.filter p) u B W ho (by omega) hB)
  clear hwa hfl
  generalize l.filter p = m at *
  go_enter Try.func40, Try.ntmps40
  go_wp2_with fail
  rw [← HWA.out]
  refine HC.out.mono ?_
  rintro e w1 ⟨v1, rfl, ho1', hb1⟩
  have HB1 := Lib.hid (bth HA.out hb1 (Nat.le_refl _))
  have HO1 := Lib.hid ho1'
  obtain ⟨qa, qc, hq⟩ := own_slice ho1'
  subst hq
  have hs1 := hb1.size
  clear ho1' hb1 c0 c1 HC
  go_wp2_with fail
  refine (HS.out _ wa.heap.size w1 HO1.out hs1).mono ?_
  rintro e w2 ⟨rfl, ho2', hb2⟩
  have HO2 := Lib.hid ho2'
  rw [HE.out] at HO2
  have HB2 := Lib.hid (HB1.out.trans (hb2.mono HA.out.size))
  clear ho2' hb2
  go_wp2_with fail
  go_ret
  exact ⟨_, rfl, own_base HO2.out HA.out.size, HB2.out⟩

/-- A place, or a number below 0 where there is none. -/
def PlaceB (b : Bool) (w : World) (e : Ending) (w' : World) : Prop := ∃ i : Int, e = .returned (.int .i64 i) ∧ (0 ≤ i ↔ b = true) ∧ Below w.heap.size w w'

set_option maxRecDepth 20000 in
set_option maxHeartbeats 2000000 in
theorem indexFunc_any (l : List Int) (p : Int → Bool) (D : Int → Prop) (v fv : Value) (w : World) (hrow : RowV w v (I l)) (ht : TestV w fv D p) (hD : ∀ x ∈ l, D x) :
    Calls Try.prog 74 #[v, fv] w (PlaceB (l.any p) w) := by
  obtain ⟨a, cap0, rfl, hc1, hc2, hat⟩ := hrow.ints
  obtain ⟨K, cap, rfl, hent, ht⟩ := ht
  have HT := Lib.hid ht
  have HAT := Lib.hid hat
  have HD := Lib.hid hD
  clear hrow hat ht hD
  unfold maxLen at hc2
  go_enter Try.func74, Try.ntmps74
  go_wp2_with fail
  go_loopw [8] (fun i wr => ∃ k : Nat, k ≤ l.length ∧ i = .int .i64 k ∧ Hid ((l.take k).any p = false) ∧ Hid (Below w.heap.size w wr)) (fun i _ => l.length - (intOf i).toNat)
  case atStart => exact ⟨0, Nat.zero_le _, by go_num, by simp [Hid], Below.refl _ _⟩
  case round =>
    obtain ⟨k, hk, rfl, HO, HB⟩ := hrel
    by_cases hlt : k < l.length
    · obtain ⟨g, o, rfl, hg, hcell0⟩ := HAT.out k hlt
      have hcell : wr.cell? ⟨g, o + k, none⟩ = some (.int .i64 l[k]) := by rw [HB.out.cell (p := ⟨g, o + k, none⟩) hg]; exact hcell0
      have hltz : (k : Int) < (l.length : Int) := by omega
      have HC := HT.out wr HB.out l[k] (HD.out _ (List.getElem_mem hlt))
      clear hcell0
      rcases hb : p l[k] with _ | _
      · have HS : Hid ((l.take (k + 1)).any p = false) := by
          show _ = _
          rw [List.take_succ_eq_append_getElem hlt, List.any_append, HO.out]
          simp [hb]
        rw [hb] at HC
        have HCC := Lib.hid HC
        clear HC hb HO
        generalize l[k] = x at *
        go_wp2_with fail
        refine HCC.out.mono ?_
        rintro e w1 ⟨rfl, hb1⟩
        have HB1 := Lib.hid (bth HB.out hb1 (Nat.le_refl _))
        clear hb1
        go_wp2_with fail
        go_roundw
        case rel => exact ⟨k + 1, by omega, by go_num, HS, HB1⟩
        case measure => simp [intOf]; omega
      · have HS : Hid (l.any p = true) := by
          show _ = _
          rw [List.any_eq_true]
          exact ⟨l[k], List.getElem_mem hlt, hb⟩
        rw [hb] at HC
        have HCC := Lib.hid HC
        clear HC hb HO
        generalize l[k] = x at *
        go_wp2_with fail
        refine HCC.out.mono ?_
        rintro e w1 ⟨rfl, hb1⟩
        have HB1 := Lib.hid (bth HB.out hb1 (Nat.le_refl _))
        clear hb1
        go_wp2_with fail
        go_ret
        exact ⟨(k : Int), rfl, by rw [HS.out]; simp, HB1.out⟩
    · have HS : Hid (l.any p = false) := by
        show _ = _
        have := HO.out
        rwa [List.take_of_length_le (by omega)] at this
      have hltz : ¬ ((k : Int) < (l.length : Int)) := by omega
      clear HO
      go_wp2_with fail
      go_ret
      exact ⟨-1, rfl, by rw [HS.out]; simp, HB.out⟩

set_option maxRecDepth 20000 in
set_option maxHeartbeats 1000000 in
theorem containsFunc_any (l : List Int) (p : Int → Bool) (D : Int → Prop) (v fv : Value) (w : World) (hrow : RowV w v (I l)) (ht : TestV w fv D p) (hD : ∀ x ∈ l, D x) :
    Calls Try.prog 81 #[v, fv] w (BoolB (l.any p) w) := by
  have HC := Lib.hid (indexFunc_any l p D v fv w hrow ht hD)
  clear hrow ht hD
  go_enter Try.func81, Try.ntmps81
  go_wp2_with fail
  refine HC.out.mono ?_
  rintro e w1 ⟨i, rfl, hi, hb⟩
  have HI := Lib.hid hi
  have HB := Lib.hid hb
  clear hi hb HC
  go_wp2_with fail
  go_ret
  refine ⟨?_, HB.out⟩
  show Ending.returned (.bool (decide (0 ≤ i))) = _
  congr 2
  rw [Bool.eq_iff_iff, decide_eq_true_eq]
  exact HI.out

/-- A block of one cell. -/
def Blk1 (w : World) (b t : Nat) (x : Value) : Prop := w.heap[b]? = some (.cells #[x] t (0, 0))
theorem Blk1.cell {w : World} {b t : Nat} {x : Value} (h : Blk1 w b t x) : w.cell? ⟨b, 0, none⟩ = some x := by rw [cell_of_row w b _ _ t (0, 0) h]; rfl
theorem Blk1.below {w w' : World} {B b t : Nat} {x : Value} (h : Blk1 w b t x) (hb : Below B w w') (hlt : b < B) : Blk1 w' b t x := (hb.block b hlt).trans h
theorem Blk1.new {w : World} {t : Nat} {x : Value} : Blk1 (w.alloc (.cells #[x] t)) w.heap.size t x := heap_alloc_new w _

/-- A function value is handed back that tells whether p. -/
def TestPost (D : Int → Prop) (p : Int → Bool) (w : World) (e : Ending) (w' : World) : Prop := ∃ fv, e = .returned fv ∧ TestV w' fv D p ∧ Below w.heap.size w w' ∧ ∃ K b, fv = .func (.func K) #[] #[.pointer (some ⟨b, 0, none⟩)]

end Go.Proofs.Ytgolhfmmlanmlaa
