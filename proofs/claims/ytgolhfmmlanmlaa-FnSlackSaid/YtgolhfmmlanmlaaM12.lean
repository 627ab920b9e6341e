/- Texts of one claim, joined in their order. -/
import Derived.Lib.SliceRun
import Derived.Lib.OwnBridge
import Derived.Sort.OwnSortedInts
import Derived.Maps.AppendAt
import Derived.ArgAppend
import Derived.Test.YtgolhfmmlanmlaaM11
import Derived.Test.YtgolhfmmlanmlaaM6
import Derived.Test.YtgolhfmmlanmlaaM7
import Derived.Test.YtgolhfmmlanmlaaM3

/- Plain mathematics of a mended order: places taken anew, and what moved. -/
namespace Go.Proofs.Ytgolhfmmlanmlaa
open Go.RowKit Pth

/-- The first so many places at which p holds. -/
def locK (st : List Int) (p : Int → Bool) (j : Nat) : List Nat := (List.range j).filter (fun i => p (st.getD i 0))
theorem locK_yes {st : List Int} {p : Int → Bool} {j : Nat} (hj : j < st.length) (h : p st[j] = true) : locK st p (j + 1) = locK st p j ++ [j] := by
  unfold locK; rw [List.range_succ, List.filter_append]; simp [hj, h]
theorem locK_no {st : List Int} {p : Int → Bool} {j : Nat} (hj : j < st.length) (h : p st[j] = false) : locK st p (j + 1) = locK st p j := by
  unfold locK; rw [List.range_succ, List.filter_append]; simp [hj, h]
theorem locK_len (st : List Int) (p : Int → Bool) (j : Nat) : (locK st p j).length ≤ j := by
  have := List.length_filter_le (fun i => p (st.getD i 0)) (List.range j); rwa [List.length_range] at this
theorem mem_locK {st : List Int} {p : Int → Bool} {j i : Nat} : i ∈ locK st p j ↔ i < j ∧ p (st.getD i 0) = true := by
  unfold locK; rw [List.mem_filter, List.mem_range]
theorem locK_nodup (st : List Int) (p : Int → Bool) (j : Nat) : (locK st p j).Nodup := List.nodup_range.filter _
theorem locK_map {st : List Int} {p : Int → Bool} : ∀ {j : Nat}, j ≤ st.length → (locK st p j).map (fun i => st.getD i 0) = (st.take j).filter p := by
  intro j
  induction j with
  | zero => intro _; simp [locK]
  | succ j ih =>
    intro hj
    have hj' : j < st.length := by omega
    rcases h : p st[j] with _ | _
    · rw [locK_no hj' h, ih (by omega), filter_no hj' h]
    · rw [locK_yes hj' h, List.map_append, ih (by omega), filter_yes hj' h]; simp [hj']
theorem locK_congr {st : List Int} {p q : Int → Bool} (h : ∀ y ∈ st, p y = q y) {j : Nat} (hj : j ≤ st.length) : locK st p j = locK st q j := by
  unfold locK
  refine List.filter_congr (fun i hi => ?_)
  rw [List.mem_range] at hi
  have : st.getD i 0 ∈ st := by rw [List.getD_eq_getElem?_getD, List.getElem?_eq_getElem (by omega)]; exact List.getElem_mem _
  exact h _ this

/-- Places taken anew. -/
def newO (l : List Int) (ps : List Nat) (mv : List Int) : List Int := (ps.zip mv).foldl (fun s pm => s.set pm.1 pm.2) l
theorem newO_len (ps : List Nat) : ∀ (mv l : List Int), (newO l ps mv).length = l.length := by
  induction ps with
  | nil => intro mv l; rfl
  | cons p r ih =>
    intro mv l
    cases mv with
    | nil => rfl
    | cons m t => show (newO (l.set p m) r t).length = _; rw [ih, List.length_set]
theorem newO_snoc {l : List Int} {ps : List Nat} {mv : List Int} {i : Nat} (hp : i < ps.length) (hm : i < mv.length) : newO l (ps.take (i + 1)) (mv.take (i + 1)) = (newO l (ps.take i) (mv.take i)).set ps[i] mv[i] := by
  unfold newO
  rw [List.take_succ_eq_append_getElem hp, List.take_succ_eq_append_getElem hm, List.zip_append (by rw [List.length_take, List.length_take]; omega), List.foldl_append]
  rfl
theorem newO_other (ps : List Nat) : ∀ (mv l : List Int) {q : Nat}, q ∉ ps → (newO l ps mv).getD q 0 = l.getD q 0 := by
  induction ps with
  | nil => intro mv l q _; rfl
  | cons p r ih =>
    intro mv l q hq
    rw [List.mem_cons, not_or] at hq
    cases mv with
    | nil => rfl
    | cons m t =>
      show (newO (l.set p m) r t).getD q 0 = _
      rw [ih _ _ hq.2, List.getD_eq_getElem?_getD, List.getD_eq_getElem?_getD, List.getElem?_set_ne (fun e => hq.1 e.symm)]
theorem newO_at (ps : List Nat) : ∀ (mv l : List Int) (_ : ps.Nodup) (_ : ∀ p ∈ ps, p < l.length) {i : Nat} (hi : i < ps.length) (hm : i < mv.length), (newO l ps mv).getD ps[i] 0 = mv[i] := by
  induction ps with
  | nil => intro mv l _ _ i hi; simp at hi
  | cons p r ih =>
    intro mv l hn hr i hi hm
    rw [List.nodup_cons] at hn
    cases mv with
    | nil => simp at hm
    | cons m t =>
      show (newO (l.set p m) r t).getD _ 0 = _
      cases i with
      | zero =>
        show (newO (l.set p m) r t).getD p 0 = m
        rw [newO_other _ _ _ hn.1, List.getD_eq_getElem?_getD, List.getElem?_set_self (hr p (by simp))]
        rfl
      | succ i =>
        exact ih t (l.set p m) hn.2 (fun q hq => by rw [List.length_set]; exact hr q (by simp [hq])) (by simpa using hi) (by simpa using hm)

/-- What moved, as the reference gathers it. -/
def movK (l : List Int) (z : List (Nat × Int)) : List Int := z.foldl (fun o pm => if l.getD pm.1 0 = pm.2 then o else putL o pm.2) []
theorem movK_snoc (l : List Int) (z : List (Nat × Int)) (pm : Nat × Int) : movK l (z ++ [pm]) = if l.getD pm.1 0 = pm.2 then movK l z else putL (movK l z) pm.2 := by
  unfold movK; rw [List.foldl_append]; rfl
theorem movK_ind {l : List Int} {motive : List (Nat × Int) → List Int → Prop} (h0 : motive [] []) (hs : ∀ z pm o, motive z o → motive (z ++ [pm]) (if l.getD pm.1 0 = pm.2 then o else putL o pm.2)) : ∀ z, motive z (movK l z) := by
  intro z
  have : ∀ n (z : List (Nat × Int)), z.length = n → motive z (movK l z) := by
    intro n
    induction n with
    | zero => intro z h; rw [List.eq_nil_of_length_eq_zero h]; exact h0
    | succ n ih =>
      intro z h
      have hne : z ≠ [] := fun e => by rw [e] at h; simp at h
      rw [← List.dropLast_concat_getLast hne, movK_snoc]
      exact hs _ _ _ (ih _ (by rw [List.length_dropLast]; omega))
  exact this _ z rfl
theorem movK_rise (l : List Int) (z : List (Nat × Int)) : Rise (movK l z) := by
  refine movK_ind (motive := fun _ o => Rise o) (by simp [Rise]) (fun z pm o h => ?_) z
  split
  · exact h
  · exact put_rise h
theorem mem_movK (l : List Int) (z : List (Nat × Int)) : ∀ y, y ∈ movK l z ↔ ∃ pm ∈ z, l.getD pm.1 0 ≠ pm.2 ∧ y = pm.2 := by
  refine movK_ind (motive := fun z o => ∀ y, y ∈ o ↔ ∃ pm ∈ z, l.getD pm.1 0 ≠ pm.2 ∧ y = pm.2) (by simp) (fun z pm o h y => ?_) z
  by_cases he : l.getD pm.1 0 = pm.2
  · rw [if_pos he, h y]
    constructor
    · rintro ⟨q, hq, h1, h2⟩; exact ⟨q, by simp [hq], h1, h2⟩
    · rintro ⟨q, hq, h1, h2⟩
      rw [List.mem_append, List.mem_singleton] at hq
      rcases hq with hq | rfl
      · exact ⟨q, hq, h1, h2⟩
      · exact absurd he h1
  · rw [if_neg he, mem_put, h y]
    constructor
    · rintro (rfl | ⟨q, hq, h1, h2⟩)
      · exact ⟨pm, by simp, he, rfl⟩
      · exact ⟨q, by simp [hq], h1, h2⟩
    · rintro ⟨q, hq, h1, h2⟩
      rw [List.mem_append, List.mem_singleton] at hq
      rcases hq with hq | rfl
      · exact .inr ⟨q, hq, h1, h2⟩
      · exact .inl h2
theorem movK_len (l : List Int) (z : List (Nat × Int)) : (movK l z).length ≤ z.length := by
  refine movK_ind (motive := fun z o => o.length ≤ z.length) (by simp) (fun z pm o h => ?_) z
  rw [List.length_append, List.length_singleton]
  split
  · omega
  · have key : ∀ (o : List Int) (n : Int), (putL o n).length ≤ o.length + 1 := by
      intro o n
      induction o with
      | nil => simp [putL]
      | cons x t ih =>
        unfold putL
        split
        · simp only [List.length_cons]; omega
        · split
          · simp only [List.length_cons]; omega
          · simp only [List.length_cons]; omega
    have := key o pm.2; omega

theorem mem_moved {a b : List Int} (hl : b.length = a.length) {y : Int} : y ∈ movedL a b ↔ ∃ k, k < a.length ∧ a.getD k 0 = y ∧ b.getD k 0 ≠ y := by
  unfold movedL
  rw [List.mem_map]
  constructor
  · rintro ⟨p, hp, rfl⟩
    rw [List.mem_filter] at hp
    obtain ⟨k, hk, he⟩ := List.getElem_of_mem hp.1
    rw [List.length_zip] at hk
    rw [List.getElem_zip] at he
    subst he
    refine ⟨k, by omega, ?_, ?_⟩
    · rw [List.getD_eq_getElem?_getD, List.getElem?_eq_getElem (by omega)]; rfl
    · rw [List.getD_eq_getElem?_getD, List.getElem?_eq_getElem (by omega)]; simpa using hp.2
  · rintro ⟨k, hk, h1, h2⟩
    have e1 : a.getD k 0 = a[k] := by rw [List.getD_eq_getElem?_getD, List.getElem?_eq_getElem hk]; rfl
    have e2 : b.getD k 0 = b[k] := by rw [List.getD_eq_getElem?_getD, List.getElem?_eq_getElem (by omega)]; rfl
    rw [e1] at h1
    rw [e2] at h2
    refine ⟨(a[k], b[k]), ?_, h1⟩
    rw [List.mem_filter]
    refine ⟨?_, by simpa [h1] using h2⟩
    rw [List.mem_iff_getElem]
    exact ⟨k, by rw [List.length_zip]; omega, by rw [List.getElem_zip]⟩
theorem moved_nodup {a b : List Int} (h : a.Nodup) : (movedL a b).Nodup := by
  have key : ∀ (a b : List Int), (movedL a b).Sublist a := by
    intro a
    induction a with
    | nil => intro b; simp [movedL]
    | cons x t ih =>
      intro b
      cases b with
      | nil => simp [movedL]
      | cons y r =>
        unfold movedL
        rw [List.zip_cons_cons, List.filter_cons]
        split
        · rw [List.map_cons]; exact (ih r).cons_cons x
        · exact (ih r).cons x
  exact h.sublist (key a b)
theorem getD_in {l : List Int} {k : Nat} (hk : k < l.length) : l.getD k 0 = l[k] := by rw [List.getD_eq_getElem?_getD, List.getElem?_eq_getElem hk]; rfl
theorem moved_same {l : List Int} {ps : List Nat} {mv : List Int} (hn : l.Nodup) (hps : ps.Nodup) (hr : ∀ p ∈ ps, p < l.length) (hlen : ps.length = mv.length) (hp : mv.Perm (ps.map (fun i => l.getD i 0))) :
    sortI (movedL l (newO l ps mv)) = movK l (ps.zip mv) := by
  have hinj : ∀ i j (hi : i < ps.length) (hj : j < ps.length), l.getD ps[i] 0 = l.getD ps[j] 0 → i = j := by
    intro i j hi hj h
    have h1 := hr _ (List.getElem_mem hi)
    have h2 := hr _ (List.getElem_mem hj)
    rw [getD_in h1, getD_in h2] at h
    exact (List.getElem_inj hps).1 ((List.getElem_inj hn).1 h)
  have hmn : mv.Nodup := by
    rw [hp.nodup_iff, List.nodup_iff_pairwise_ne, List.pairwise_iff_getElem]
    intro i j hi hj hij e
    simp only [List.getElem_map] at e
    have := hinj i j (by simpa using hi) (by simpa using hj) e
    omega
  have hmem : ∀ y, y ∈ mv ↔ ∃ i, ∃ hi : i < ps.length, l.getD ps[i] 0 = y := by
    intro y
    rw [hp.mem_iff, List.mem_map]
    constructor
    · rintro ⟨p, hpm, he⟩
      obtain ⟨i, hi, rfl⟩ := List.getElem_of_mem hpm
      exact ⟨i, hi, he⟩
    · rintro ⟨i, hi, he⟩; exact ⟨_, List.getElem_mem hi, he⟩
  have hrise : Rise (sortI (movedL l (newO l ps mv))) := by
    have hd : (sortI (movedL l (newO l ps mv))).Nodup := (sortI_perm _).nodup_iff.2 (moved_nodup hn)
    have h2 := List.Pairwise.and (sortI_sorted (movedL l (newO l ps mv))) hd
    exact h2.imp (fun h => by omega)
  refine rise_ext hrise (movK_rise _ _) (fun y => ?_)
  rw [(sortI_perm _).mem_iff, mem_moved (newO_len _ _ _), mem_movK]
  constructor
  · rintro ⟨k, hk, h1, h2⟩
    by_cases hkp : k ∈ ps
    · obtain ⟨j, hj, rfl⟩ := List.getElem_of_mem hkp
      rw [newO_at ps mv l hps hr hj (by omega)] at h2
      obtain ⟨i, hi, he⟩ := List.getElem_of_mem ((hmem y).2 ⟨j, hj, h1⟩)
      have hij : i ≠ j := fun e => by subst e; exact h2 he
      refine ⟨(ps[i]'(by omega), mv[i]), ?_, ?_, he.symm⟩
      · rw [List.mem_iff_getElem]; exact ⟨i, by rw [List.length_zip]; omega, by rw [List.getElem_zip]⟩
      · intro e
        have e' : l.getD (ps[i]'(by omega)) 0 = y := e.trans he
        exact hij (hinj i j (by omega) hj (e'.trans h1.symm))
    · rw [newO_other _ _ _ hkp] at h2
      exact absurd h1 h2
  · rintro ⟨pm, hpm, h1, rfl⟩
    obtain ⟨i, hi, he⟩ := List.getElem_of_mem hpm
    rw [List.length_zip] at hi
    rw [List.getElem_zip] at he
    subst he
    obtain ⟨j, hj, he⟩ := (hmem mv[i]).1 (List.getElem_mem (by omega))
    refine ⟨ps[j], hr _ (List.getElem_mem hj), he, ?_⟩
    rw [newO_at ps mv l hps hr hj (by omega)]
    intro e
    have hji : j = i := (List.getElem_inj hmn).1 e
    subst hji
    exact h1 he
theorem filter_two {A B : Int → Bool} : ∀ (st : List Int), (∀ y ∈ st, ¬ (A y = true ∧ B y = true)) → (st.filter A ++ st.filter B).Perm (st.filter (fun y => A y || B y)) := by
  intro st
  induction st with
  | nil => intro _; simp
  | cons x t ih =>
    intro h
    have iht := ih (fun y hy => h y (by simp [hy]))
    have hx := h x (by simp)
    rw [List.filter_cons, List.filter_cons, List.filter_cons]
    cases ha : A x <;> cases hb : B x
    · simpa using iht
    · simp only [Bool.false_eq_true, if_false, if_true, Bool.false_or]
      exact List.perm_middle.trans (iht.cons x)
    · simp only [Bool.false_eq_true, if_false, if_true, Bool.true_or, List.cons_append]
      exact iht.cons x
    · exact absurd ⟨ha, hb⟩ hx
end Go.Proofs.Ytgolhfmmlanmlaa

/- Walks: takePlaces of the program. -/
namespace Go.Proofs.Ytgolhfmmlanmlaa
open Go.RowKit Pth

/-- Places as numbers. -/
def Ip (l : List Nat) : List Int := l.map (fun (i : Nat) => (i : Int))
theorem Ip_len (l : List Nat) : (Ip l).length = l.length := by simp [Ip]
theorem Ip_snoc (l : List Nat) (i : Nat) : Ip (l ++ [i]) = Ip l ++ [(i : Int)] := by simp [Ip]
theorem Ip_get {l : List Nat} {i : Nat} (h : i < l.length) : (Ip l)[i]'(by rw [Ip_len]; exact h) = (l[i] : Int) := by simp [Ip]

end Go.Proofs.Ytgolhfmmlanmlaa

/- Walks: mendOrder of the program. -/
namespace Go.Proofs.Ytgolhfmmlanmlaa
open Go.RowKit Pth

/-- A stretch of a row written anew. -/
def setAt (xs : List Value) : Nat → List Value → List Value
  | _, [] => xs
  | o, v :: r => setAt (xs.set o v) (o + 1) r
theorem own_setCells {B e n g c : Nat} : ∀ (vs : List Value) (o : Nat) (xs : List Value) (w : World), w.ownsRow B e 1 (.slice (some ⟨g, 0, none⟩) n c) n xs → (w.setCells g o vs).ownsRow B e 1 (.slice (some ⟨g, 0, none⟩) n c) n (setAt xs o vs) ∧ w.grownBy (w.setCells g o vs) (some g)
  | [], _, _, w, h => ⟨h, grown_refl _ _⟩
  | v :: r, o, xs, w, h => by
    have hs := h.stored o v
    have ih := own_setCells r (o + 1) (xs.set o v) (w.setCell ⟨g, o, none⟩ v) hs.1
    exact ⟨ih.1, grown_trans hs.2 ih.2⟩
theorem setAt_all (z : Value) : ∀ (m o : Nat) (xs : List Value), xs.length = o + m → setAt xs o (List.replicate m z) = xs.take o ++ List.replicate m z := by
  intro m
  induction m with
  | zero => intro o xs h; simp only [List.replicate_zero, setAt, List.append_nil]; rw [List.take_of_length_le (by omega)]
  | succ m ih =>
    intro o xs h
    have ho : o < xs.length := by omega
    show setAt (xs.set o z) (o + 1) (List.replicate m z) = _
    rw [ih (o + 1) (xs.set o z) (by rw [List.length_set]; omega), List.take_succ_eq_append_getElem (by rw [List.length_set]; exact ho)]
    have e : List.take o (xs.set o z) = List.take o xs := by
      apply List.ext_getElem
      · simp
      · intro i h1 h2
        rw [List.getElem_take, List.getElem_take, List.getElem_set_ne (by rw [List.length_take, List.length_set] at h1; omega)]
    rw [e, List.getElem_set_self, List.replicate_succ, List.append_assoc]
    rfl

open Classical in
/-- What the later one leads to. -/
noncomputable def aheadP (ls : List (List Int)) (x : Int) (y : Int) : Bool := decide (Dn ls (· = x) y)
open Classical in
/-- What leads to the earlier one. -/
noncomputable def behindP (ls : List (List Int)) (t : Int) (y : Int) : Bool := decide (Up ls (· = t) y)
theorem aheadP_iff {ls : List (List Int)} {x y : Int} : aheadP ls x y = true ↔ Dn ls (· = x) y := by unfold aheadP; exact @decide_eq_true_iff _ (Classical.propDecidable _)
theorem behindP_iff {ls : List (List Int)} {t y : Int} : behindP ls t y = true ↔ Up ls (· = t) y := by unfold behindP; exact @decide_eq_true_iff _ (Classical.propDecidable _)
noncomputable def bothP (ls : List (List Int)) (t x : Int) (y : Int) : Bool := aheadP ls x y || behindP ls t y
noncomputable def movesL (ls : List (List Int)) (t x : Int) (st : List Int) : List Int := st.filter (aheadP ls x) ++ st.filter (behindP ls t)
noncomputable def placesL (ls : List (List Int)) (t x : Int) (st : List Int) (lo : Nat) : List Nat := (locK st (bothP ls t x) st.length).map (lo + ·)
/-- The order mended. -/
noncomputable def mendO (ls : List (List Int)) (l : List Int) (t x : Int) : List Int :=
  if pos l x < pos l t then l else newO l (placesL ls t x (strL l (pos l t) (pos l x)) (pos l t)) (movesL ls t x (strL l (pos l t) (pos l x)))
theorem apart_two {ls : List (List Int)} {l : List Int} (hg : GoodP ls l) {t x : Int} (ht : t ∈ l) (hx : x ∈ l) (hloop : farI ls t x < 0) {y : Int} (hy : y ∈ l) : ¬ (aheadP ls x y = true ∧ behindP ls t y = true) := by
  rintro ⟨h1, h2⟩
  rw [aheadP_iff, dn_up hg hx hy] at h1
  rw [behindP_iff] at h2
  have := (up_way hg hx).1 (up_trans h1 h2)
  omega
theorem has_moves {ls : List (List Int)} {t x : Int} {st : List Int} : ∀ y ∈ st, hasL (movesL ls t x st) y = bothP ls t x y := by
  intro y hy
  unfold hasL movesL bothP
  rw [Bool.eq_iff_iff, decide_eq_true_iff, List.mem_append, List.mem_filter, List.mem_filter, Bool.or_eq_true]
  simp [hy]
theorem moves_perm {ls : List (List Int)} {l : List Int} (hg : GoodP ls l) {t x : Int} (ht : t ∈ l) (hx : x ∈ l) (hloop : farI ls t x < 0) {st : List Int} (hst : ∀ y ∈ st, y ∈ l) : (movesL ls t x st).Perm ((locK st (bothP ls t x) st.length).map (fun i => st.getD i 0)) := by
  rw [locK_map (Nat.le_refl _), List.take_length]
  exact filter_two st (fun y hy => apart_two hg ht hx hloop (hst y hy))
theorem moves_len {ls : List (List Int)} {l : List Int} (hg : GoodP ls l) {t x : Int} (ht : t ∈ l) (hx : x ∈ l) (hloop : farI ls t x < 0) {st : List Int} (hst : ∀ y ∈ st, y ∈ l) : (locK st (hasL (movesL ls t x st)) st.length).length = (movesL ls t x st).length := by
  rw [locK_congr has_moves (Nat.le_refl _), (moves_perm hg ht hx hloop hst).length_eq, List.length_map]
theorem strL_len {l : List Int} {lo hi : Nat} (h : hi < l.length) (h2 : lo ≤ hi) : (strL l lo hi).length = hi + 1 - lo := by unfold strL; rw [List.length_drop, List.length_take]; omega
theorem strL_get {l : List Int} {lo hi : Nat} (h : hi < l.length) (h2 : lo ≤ hi) : ∀ j (hj : j < (strL l lo hi).length), ∃ hh : lo + j < l.length, l[lo + j] = (strL l lo hi)[j] := by
  intro j hj
  have := strL_len h h2
  refine ⟨by omega, ?_⟩
  simp only [strL, List.getElem_drop, List.getElem_take]

/-- A row of numbers cut at both ends. -/
theorem cut_both {w : World} {B g c lo hi : Nat} {l : List Int} (h : w.ownsRow B 3 1 (.slice (some ⟨g, 0, none⟩) l.length c) l.length (I l)) (hh : hi < l.length) (h2 : lo ≤ hi) : RowV w (.slice (some ⟨g, lo, none⟩) (hi + 1 - lo) (c - lo)) (I (strL l lo hi)) := by
  have hc : l.length ≤ c ∧ c ≤ maxLen := by
    rcases h.2 with ⟨e, _⟩ | ⟨g', cap, cur, e, _, _, h5, h6, _⟩
    · cases e
    · injection e with _ _ e3; subst e3; exact ⟨h5, h6⟩
  refine ⟨_, _, by rw [I_len, strL_len hh h2], by rw [I_len, strL_len hh h2]; omega, by omega, fun k hk => ?_⟩
  rw [I_len] at hk
  obtain ⟨h3, h4⟩ := strL_get hh h2 k hk
  refine ⟨g, lo, rfl, (h.lt g rfl).2, ?_⟩
  rw [h.cellAt (lo + k) (by omega), I_at h3, h4, I_get hk]
theorem run_cutB (g n c lo hi : Nat) (h1 : lo ≤ hi) (h2 : hi < n) (h3 : n ≤ c) (W : World) :
    (Instr.slice 24 (.slice (some ⟨g, 0, none⟩) n c) (some (.int .i64 (lo : Int))) (some (.int .i64 ((hi : Int) + 1))) none).run Try.prog W = .ok (.slice (some ⟨g, lo, none⟩) (hi + 1 - lo) (c - lo)) W := by
  have e1 : (lo : Int) ≤ (hi : Int) + 1 := by omega
  have e2 : (hi : Int) + 1 ≤ (c : Int) := by omega
  have e3 : c ≠ lo := by omega
  have e4 : ((hi : Int) + 1).toNat = hi + 1 := by omega
  go_simp
end Go.Proofs.Ytgolhfmmlanmlaa

/- Walks: mendOrder of the program. -/
namespace Go.Proofs.Ytgolhfmmlanmlaa
open Go.RowKit Pth

theorem filter_needs {ls : List (List Int)} {l : List Int} (hg : GoodP ls l) {x : Nat} (hx : x < ls.length) {lo hi : Nat} (hhi : pos l (x : Int) = hi) (hlo : lo ≤ hi) :
    (strL l lo hi).filter (markB (markNd ls ((List.replicate ls.length false).set x true) (strL l lo hi))) = (strL l lo hi).filter (aheadP ls x) :=
  List.filter_congr (fun y hy => by rw [Bool.eq_iff_iff, needs_stretch hg hx hhi hlo y hy, aheadP_iff])
theorem filter_users {ls : List (List Int)} {l : List Int} (hg : GoodP ls l) {t : Nat} (ht : t < ls.length) {lo hi : Nat} (hlo : pos l (t : Int) = lo) (hhi : hi < l.length) :
    (strL l lo hi).filter (markB (markUs ls ((List.replicate ls.length false).set t true) (strL l lo hi))) = (strL l lo hi).filter (behindP ls t) :=
  List.filter_congr (fun y hy => by rw [Bool.eq_iff_iff, users_stretch hg ht hlo hhi y hy, behindP_iff])

end Go.Proofs.Ytgolhfmmlanmlaa

/- Numbers in memory of the call's own: one taken out, by the library; lists in a graph replaced. -/
namespace Go.Proofs.Ytgolhfmmlanmlaa
open Go.RowKit Pth Go.Lib Go.Sort

theorem grown_putRow {w : World} {g q : Nat} (d : Array Int) : w.grownBy (putRow (Value.int .i64) (Sort.ahead w q) g 0 d) (some g) :=
  ⟨rfl, rfl, rfl, by simp [putRow, mapBlock, Sort.ahead], fun k hk hne => by
    have : g ≠ k := fun e => hne (by rw [e])
    simp [putRow, mapBlock, Sort.ahead, Array.getElem?_modify, this]⟩
/-- Without one number. -/
def dropL (l : List Int) (x : Int) : List Int := l.filter (fun y => decide (y ≠ x))
theorem drop_at {l : List Int} {x : Int} (hr : Rise l) (hm : x ∈ l) : l.take (pos l x) ++ l.drop (pos l x + 1) = dropL l x := by
  obtain ⟨a, b, rfl, ha⟩ := mem_first hm
  rw [pos_split ha]
  have hb : x ∉ b := by
    intro h
    unfold Rise at hr
    rw [List.pairwise_append, List.pairwise_cons] at hr
    have := hr.2.1.1 x h
    omega
  have fa : a.filter (fun y => decide (y ≠ x)) = a := List.filter_eq_self.2 (fun y hy => by simp; exact fun e => ha (e ▸ hy))
  have fb : b.filter (fun y => decide (y ≠ x)) = b := List.filter_eq_self.2 (fun y hy => by simp; exact fun e => hb (e ▸ hy))
  unfold dropL
  rw [List.filter_append, List.filter_cons_of_neg (by simp), fa, fb]
  simp
theorem zip_set {sl : List Value} {ls : List (List Int)} {j : Nat} (hs : sl.length = ls.length) (hj : j < ls.length) (u : Value) (x : List Int) :
    (sl.set j u).zip (ls.set j x) = (sl.take j).zip (ls.take j) ++ (u, x) :: (sl.drop (j + 1)).zip (ls.drop (j + 1)) := by
  rw [List.set_eq_take_append_cons_drop, List.set_eq_take_append_cons_drop, if_pos (by omega), if_pos hj, List.zip_append (by rw [List.length_take, List.length_take]; omega), List.zip_cons_cons]
theorem zip_mid {sl : List Value} {ls : List (List Int)} {j : Nat} (hs : sl.length = ls.length) (hj : j < ls.length) :
    sl.zip ls = (sl.take j).zip (ls.take j) ++ (sl[j]'(by omega), ls[j]) :: (sl.drop (j + 1)).zip (ls.drop (j + 1)) := by
  have := zip_split (M := ls.take j) hs (by rw [List.length_take]; omega) hj
  rw [List.take_append_drop] at this
  exact this
/-- One list of a graph replaced by one that turned in its block, or by a new one. -/
theorem Lists.put {B : Nat} {w w' : World} {sl : List Value} {ls : List (List Int)} {R : List (Value × List Int)} {j : Nat} {u : Value} {x : List Int} (hs : sl.length = ls.length) (hj : j < ls.length) (h : Lists B w (sl.zip ls ++ R)) (hg : w.grownBy w' (sl[j]'(by omega)).ownBlock) (hown : w'.ownsRow B 3 1 u x.length (I x))
    (hv : ∀ b, u.ownBlock = some b → (sl[j]'(by omega)).ownBlock = some b ∨ w.heap.size ≤ b) : Lists B w' ((sl.set j u).zip (ls.set j x) ++ R) := by
  rw [zip_set hs hj, List.append_assoc, List.cons_append]
  rw [zip_mid hs hj, List.append_assoc, List.cons_append] at h
  exact h.turn hg hown hv
end Go.Proofs.Ytgolhfmmlanmlaa

/- What AddNeed wants: an append that tells where it lies, a sort that turns its own row alone, one more need. -/
namespace Go.Proofs.Ytgolhfmmlanmlaa
open Go.RowKit Pth Go.Lib Go.Sort

/-- One number behind a row of the call's own, and where the new row lies. -/
theorem app_at (m : List Int) (x : Int) (v : Value) (B : Nat) (w : World) (hown : w.ownsRow B 3 1 v m.length (I m)) (hm : m.length ≤ 1000) (hB : B ≤ w.heap.size) (ty : TypeId) :
    ∃ v' w', (Builtin.append_ #[24, 24] ty #[v, .slice (some ⟨w.heap.size, 0, none⟩) 1 1]).run Try.prog (w.alloc (.cells #[.int .i64 x] 3)) = .ok v' w' ∧ w'.ownsRow B 3 1 v' (m ++ [x]).length (I (m ++ [x])) ∧ w.grownBy w' v.ownBlock ∧ (∀ b, v'.ownBlock = some b → v.ownBlock = some b ∨ w.heap.size ≤ b) := by
  obtain ⟨i0, hi, hz0, hz1, hz2⟩ := info_parts elemI.info
  obtain ⟨v', w', h1, h2, h3, _, h5⟩ := run_append_own_at (P := Try.prog) (w.alloc (.cells #[.int .i64 x] 3)) B 24 ty 3 i0 (.int .i64 0) 1 8 elemI.under hi hz0 hz1 hz2 rfl (by decide) v m.length (I m) (hown.alloc _) ⟨w.heap.size, 0, none⟩ 1 1 [.int .i64 x] (by simp) (fun j u hj => by
      have hj0 : j = 0 := by
        rcases j with _ | j
        · rfl
        · simp at hj
      subst hj0
      simp only [List.getElem?_cons_zero, Option.some.injEq] at hj
      subst hj
      have := one_new w (.int .i64 x) 3 0 (.int .i64 x) rfl
      exact this) (by simp [Value.oneCell']) (by unfold maxLen; omega) (by omega) (by rw [World.size_alloc]; omega)
  refine ⟨v', w', h1, ?_, ?_, ?_⟩
  · have e : I (m ++ [x]) = I m ++ [.int .i64 x] := I_append _ _
    rw [e, List.length_append, List.length_singleton]
    exact h2
  · exact ⟨h3.os, h3.tape, h3.output, Nat.le_trans (by rw [World.size_alloc]; omega) h3.size, fun k hk hne => (h3.block k (by rw [World.size_alloc]; omega) hne).trans (Below.heap_alloc _ _ _ hk)⟩
  · intro b hb
    rcases h5 with h5 | h5
    · exact .inl (by rw [← h5]; exact hb)
    · rw [hb, World.size_alloc] at h5
      have := Option.some.inj h5
      exact .inr (by omega)

theorem sortG_any (l : List Int) (v : Value) (B : Nat) (w : World) (hown : w.ownsRow B 3 1 v l.length (I l)) (hl : l.length ≤ 1000000) :
    Calls Try.prog 72 #[v] w fun e w' => e = .returned (.tuple #[]) ∧ w'.ownsRow B 3 1 v (sortI l).length (I (sortI l)) ∧ w.grownBy w' v.ownBlock := by
  rcases hown.2 with ⟨hv, h0⟩ | ⟨g, cap, cur, hv, hBg, hh, h1, h2, h3, h4⟩
  · subst hv
    have h00 : l = [] := List.eq_nil_of_length_eq_zero h0
    subst h00
    refine (Try.slices_Sort_int_none none 0 w).mono fun e w' ⟨he, hw⟩ => ?_
    subst hw
    rw [show sortI [] = [] by simp [sortI]]
    exact ⟨he, hown, grown_refl _ _⟩
  · subst hv
    have hH := holds_of_blockI (ss := l) hh (by rw [Nat.mul_one] at h4; rw [← I_enc]; exact h4)
    refine (Try.slices_Sort_int g 0 cap l w hH (lt_of_block hh) (by omega)).mono ?_
    rintro e w' ⟨he, n, os, rfl⟩
    refine ⟨he, ?_, grownBy_sortedI _⟩
    have := ownsRow_sortedI (base := B) (n := n) (os := os) (ss := l) (ts := sortI l) (sortI_len l) hBg hh h1 h2 h3
    rw [sortI_len, I_enc]
    exact this
/-- One more, sorted, is one put among them. -/
theorem sort_put {l : List Int} {x : Int} (hr : Rise l) (hx : x ∉ l) : sortI (l ++ [x]) = putL l x := by
  have hn : (l ++ [x]).Nodup := by
    rw [List.nodup_append]
    refine ⟨rise_nodup hr, by simp, fun a ha b hb => ?_⟩
    rw [List.mem_singleton] at hb
    subst hb
    intro e
    exact hx (by rw [← e]; exact ha)
  have hd : (sortI (l ++ [x])).Nodup := (sortI_perm _).nodup_iff.2 hn
  have h2 := List.Pairwise.and (sortI_sorted (l ++ [x])) hd
  refine rise_ext (h2.imp (fun h => by omega)) (put_rise hr) (fun y => ?_)
  rw [(sortI_perm _).mem_iff, mem_put, List.mem_append, List.mem_singleton]
  constructor
  · rintro (h | h)
    · exact .inr h
    · exact .inl h
  · rintro (h | h)
    · exact .inr h
    · exact .inl h
end Go.Proofs.Ytgolhfmmlanmlaa

/- One list put behind another: the first stays as it was. -/
namespace Go.Proofs.Ytgolhfmmlanmlaa
open Go.RowKit Pth

theorem setAt_past : ∀ (vs : List Value) (o : Nat) (xs : List Value), xs.length ≤ o → setAt xs o vs = xs
  | [], _, _, _ => rfl
  | v :: r, o, xs, h => by
    show setAt (xs.set o v) (o + 1) r = xs
    rw [List.set_eq_of_length_le h]
    exact setAt_past r (o + 1) xs (by omega)
theorem row_cells {w : World} {g a c : Nat} {l : List Int} (h : RowV w (.slice (some ⟨g, a, none⟩) l.length c) (I l)) : ∀ j u, (I l)[j]? = some u → w.cell? ⟨g, a + j, none⟩ = some u := by
  intro j u hj
  obtain ⟨a', c', he, h1, h2, hat⟩ := h.ints
  injection he with he1 _ he3
  obtain ⟨hj1, hj2⟩ := List.getElem?_eq_some_iff.1 hj
  rw [I_len] at hj1
  obtain ⟨g', o', he, hg', hc⟩ := hat j hj1
  rw [he] at he1
  injection he1 with he1
  injection he1 with e1 e2
  subst e1 e2
  rw [hc, ← hj2, I_get hj1]

/-- A list of the call's own, another one behind it: the new one, and the first one stays. -/
theorem app_keep (m k : List Int) (v u : Value) (B : Nat) (w : World) (hown : w.ownsRow B 3 1 v m.length (I m)) (hu : RowV w u (I k)) (hm : m.length ≤ 1000) (hk : k.length ≤ 1000) (hB : B ≤ w.heap.size) (ty : TypeId) :
    ∃ v' w', (Builtin.append_ #[24, 24] ty #[v, u]).run Try.prog w = .ok v' w' ∧ w'.ownsRow B 3 1 v' (m ++ k).length (I (m ++ k)) ∧ w.grownBy w' v.ownBlock ∧ w'.ownsRow B 3 1 v m.length (I m) ∧ (∀ b, v'.ownBlock = some b → v.ownBlock = some b ∨ w.heap.size ≤ b) := by
  obtain ⟨i0, hi, hz0, hz1, hz2⟩ := info_parts elemI.info
  obtain ⟨ua, uc, rfl, hu1, hu2, huc⟩ := hu.ints
  have eIL : I (m ++ k) = I m ++ I k := I_append _ _
  have hl : (m ++ k).length = m.length + k.length := List.length_append
  have go : ∀ ad : Addr, ua = some ad → (∀ j x, (I k)[j]? = some x → w.cell? (ad.add j) = some x) → ∃ v' w', (Builtin.append_ #[24, 24] ty #[v, .slice ua k.length uc]).run Try.prog w = .ok v' w' ∧ w'.ownsRow B 3 1 v' (m ++ k).length (I (m ++ k)) ∧ w.grownBy w' v.ownBlock ∧ w'.ownsRow B 3 1 v m.length (I m) ∧ (∀ b, v'.ownBlock = some b → v.ownBlock = some b ∨ w.heap.size ≤ b) := by
    rintro ad rfl hnews
    obtain ⟨v', w', h1, h2, h3, _, h5⟩ := run_append_own_at (P := Try.prog) w B 24 ty 3 i0 (.int .i64 0) 1 8 elemI.under hi hz0 hz1 hz2 rfl (by decide) v m.length (I m) hown ad k.length uc (I k) (by rw [I_len]; omega) hnews (I_one k) (by unfold maxLen; omega) (by omega) hB
    have hv : ∀ b, v'.ownBlock = some b → v.ownBlock = some b ∨ w.heap.size ≤ b := by
      intro b hb
      rcases h5 with h5 | h5
      · exact .inl (by rw [← h5]; exact hb)
      · rw [hb] at h5
        have := Option.some.inj h5
        exact .inr (by omega)
    refine ⟨v', w', h1, by rw [eIL, hl]; exact h2, h3, ?_, hv⟩
    rcases hown.2 with ⟨hv, h0⟩ | ⟨g, cap, cur, hv, hBg, hh, hc1, hc2, hc3, hc4⟩
    · exact ⟨by rw [I_len]; omega, .inl ⟨hv, h0⟩⟩
    · subst hv
      by_cases hroom : m.length + k.length ≤ cap
      · have hcell : ∀ j, j < cap → (w.cell? ⟨g, j, none⟩).isSome = true ∧ w.frozen? ⟨g, j, none⟩ = false := fun j hj => by
          refine ⟨?_, frozen_of_row w g j _ _ hh⟩
          rw [cell_of_row w g j _ _ (0, 0) hh]
          simp; omega
        have hrun := run_append_room_cells (P := Try.prog) w 24 ty 3 i0 elemI.under hi g 0 m.length cap ad k.length uc (I k) (by rw [I_len, hz1]; omega) hnews (I_one k) hroom (fun j hj => by rw [I_len] at hj; rw [hz1]; exact (hcell _ (by omega)).1) (fun j hj => by rw [I_len] at hj; rw [hz1]; exact (hcell _ (by omega)).2)
        rw [h1] at hrun
        injection hrun with e1 e2
        rw [e2, hz1, Nat.zero_add, Nat.mul_one]
        have := (own_setCells (I k) m.length (I m) w hown).1
        rwa [setAt_past _ _ _ (by rw [I_len]; exact Nat.le_refl _)] at this
      · obtain ⟨v2, w2, g1, g2, g3⟩ := run_append_arg_grows (P := Try.prog) w 24 ty 3 i0 (.int .i64 0) 1 8 elemI.under hi hz0 hz1 hz2 rfl (by decide) ⟨g, 0, none⟩ m.length cap (I m) (by rw [I_len]; omega) (fun j x hj => by rw [add_addr]; exact row_cells (RowV.of_own hown) j x hj) ad k.length uc (I k) (by rw [I_len]; omega) hnews (by omega) (by unfold maxLen; omega) (by omega)
        rw [h1] at g1
        injection g1 with e1 e2
        rw [e2]
        exact hown.kept g3 (.inr (by simp [Value.ownBlock]))
  by_cases hk0 : k.length = 0
  · obtain rfl : k = [] := List.eq_nil_of_length_eq_zero hk0
    rcases ua with _ | ad
    · exact ⟨v, w, run_app_none elemI w B m.length uc ty v (I m) hown, by simpa using hown, ⟨rfl, rfl, rfl, Nat.le_refl _, fun _ _ _ => rfl⟩, hown, fun b hb => .inl hb⟩
    · exact go ad rfl (fun j x hj => by simp [I] at hj)
  · obtain ⟨gu, ou, hg, _, _⟩ := huc 0 (by omega)
    subst hg
    exact go _ rfl (fun j x hj => by rw [add_addr]; exact row_cells hu j x hj)

/-- All of a list copied over a list of the call's own. -/
theorem copy_own (m k : List Int) (a : Option Addr) (cap gO cO : Nat) (B : Nat) (W : World) (hrow : RowV W (.slice a k.length cap) (I k)) (hown : W.ownsRow B 3 1 (.slice (some ⟨gO, 0, none⟩) m.length cO) m.length (I m)) (hl : k.length = m.length) (h0 : 0 < k.length) :
    ∃ W', (∀ ty, (Builtin.copy_ #[24, 24] ty #[.slice (some ⟨gO, 0, none⟩) m.length cO, .slice a k.length cap]).run Try.prog W = .ok (goInt k.length) W') ∧ W'.ownsRow B 3 1 (.slice (some ⟨gO, 0, none⟩) m.length cO) m.length (I k) ∧ W.grownBy W' (some gO) := by
  obtain ⟨a', c', he, h1, h2, hat⟩ := hrow.ints
  obtain ⟨g0, o0, ha, hg0, _⟩ := hat 0 h0
  injection he with he1 _ he3
  subst he1 he3 ha
  rcases hown.2 with ⟨hv, _⟩ | ⟨g, cap2, cur, hv, hBg, hh, hc1, hc2, hc3, hc4⟩
  · simp at hv
  injection hv with hv1 _ hv3
  injection hv1 with hv1
  injection hv1 with hv1 _ _
  subst hv1 hv3
  have hsrc : ∀ j u, (I k)[j]? = some u → W.cell? ((⟨g0, o0, none⟩ : Addr).add j) = some u := fun j u hj => by rw [add_addr]; exact row_cells hrow j u hj
  have hrun := fun ty => run_copy_row (P := Try.prog) W 24 24 ty 3 gO 0 m.length cO ⟨g0, o0, none⟩ k.length cap cur 3 (I k) Try.underlying24 (by kernel_rfl) hh (by rw [I_len, hl]; exact (Nat.min_self _).symm) hsrc (by rw [I_len]; omega) (I_one k)
  rw [I_len] at hrun
  refine ⟨_, hrun, ?_, ?_⟩
  · have hn := setRow_heap W gO _ (cur.toList.take 0 ++ I k ++ cur.toList.drop (0 + k.length)).toArray _ _ hh
    refine ⟨by rw [I_len]; omega, .inr ⟨gO, cO, _, rfl, hBg, hn, hc1, hc2, ?_, ?_⟩⟩
    · simp [I_len]; omega
    · simp only [List.take_zero, List.nil_append]
      rw [List.take_left' (by rw [I_len]; omega)]
  · exact ⟨rfl, rfl, rfl, by simp [World.setRow], fun k _ hk => setRow_other W gO k _ (fun e => hk (by rw [e]))⟩
end Go.Proofs.Ytgolhfmmlanmlaa

/- Walks: AddNeed of the program, where no need is added. -/
namespace Go.Proofs.Ytgolhfmmlanmlaa
open Go.RowKit Pth

/-- Two tasks of a good graph, and no such need yet. -/
noncomputable def addPre (ls : List (List Int)) (l : List Int) (t x : Int) : Bool := goodG ls l && (decide (0 ≤ t) && decide (t < (ls.length : Int))) && (decide (0 ≤ x) && decide (x < (ls.length : Int))) && !hasL (needsAt ls t) x
noncomputable def addOk (ls : List (List Int)) (l : List Int) (t x : Int) : Bool := addPre ls l t x && decide (farI ls t x < 0)
noncomputable def addG (ls : List (List Int)) (l : List Int) (t x : Int) : List (List Int) := if addOk ls l t x then ls.set t.toNat (putL (needsAt ls t) x) else []
noncomputable def addO (ls : List (List Int)) (l : List Int) (t x : Int) : List Int := if addOk ls l t x then mendO ls l t x else []
noncomputable def addM (ls : List (List Int)) (l : List Int) (t x : Int) : List Int := if addOk ls l t x then sortI (movedL l (mendO ls l t x)) else if addPre ls l t x then loopL ls t x else []
theorem add_no {ls : List (List Int)} {l : List Int} {t x : Int} (h : addOk ls l t x = false) : addG ls l t x = [] ∧ addO ls l t x = [] ∧ addM ls l t x = if addPre ls l t x then loopL ls t x else [] := by
  unfold addG addO addM; rw [h]; exact ⟨rfl, rfl, rfl⟩
theorem add_yes {ls : List (List Int)} {l : List Int} {t x : Int} (h : addOk ls l t x = true) : addG ls l t x = ls.set t.toNat (putL (needsAt ls t) x) ∧ addO ls l t x = mendO ls l t x ∧ addM ls l t x = sortI (movedL l (mendO ls l t x)) := by
  unfold addG addO addM; rw [h]; exact ⟨rfl, rfl, rfl⟩
/-- A graph and a list, of the call's own, no two in one block. -/
def GraphM (B : Nat) (w : World) (v u : Value) (ls : List (List Int)) (l m : List Int) : Prop :=
  ∃ nv ov sl, v = .agg #[nv, ov] ∧ sl.length = ls.length ∧ w.ownsRow B 24 1 nv ls.length sl ∧ Lists B w ((sl.zip ls ++ [(ov, l)]) ++ [(u, m)])
theorem GraphM.graph {B : Nat} {w : World} {v u : Value} {ls : List (List Int)} {l m : List Int} (h : GraphM B w v u ls l m) : GraphO B w v ls l := by
  obtain ⟨nv, ov, sl, h1, h2, h3, h4⟩ := h
  exact ⟨nv, ov, sl, h1, h2, h3, h4.left⟩
theorem GraphM.list {B : Nat} {w : World} {v u : Value} {ls : List (List Int)} {l m : List Int} (h : GraphM B w v u ls l m) : w.ownsRow B 3 1 u m.length (I m) := by
  obtain ⟨nv, ov, sl, h1, h2, h3, h4⟩ := h
  exact h4.1 (u, m) (List.mem_append.2 (.inr (List.mem_singleton.2 rfl)))
theorem GraphM.none {B : Nat} {w : World} {u : Value} {m : List Int} (h : w.ownsRow B 3 1 u m.length (I m)) : GraphM B w (.agg #[.slice none 0 0, .slice none 0 0]) u [] [] m := by
  refine ⟨_, _, [], rfl, rfl, ⟨rfl, .inl ⟨rfl, rfl⟩⟩, ?_, ?_⟩
  · intro p hp
    simp only [List.zip_nil_left, List.nil_append, List.cons_append, List.mem_cons, List.not_mem_nil, or_false] at hp
    rcases hp with rfl | rfl
    · exact ⟨rfl, .inl ⟨rfl, rfl⟩⟩
    · exact h
  · simp only [List.zip_nil_left, List.nil_append, List.cons_append, List.pairwise_cons, List.mem_singleton, List.not_mem_nil, false_implies, implies_true, List.Pairwise.nil, and_true]
    rintro p rfl b hb
    simp [Value.ownBlock] at hb
def AddPost (G : List (List Int)) (O M : List Int) (b : Bool) (w : World) (e : Ending) (w' : World) : Prop := ∃ v' u', e = .returned (.tuple #[v', u', .bool b]) ∧ GraphM w.heap.size w' v' u' G O M ∧ Below w.heap.size w w'

end Go.Proofs.Ytgolhfmmlanmlaa

/- Walks: AddNeed of the program, where a need is added. -/
namespace Go.Proofs.Ytgolhfmmlanmlaa
open Go.RowKit Pth

theorem total_ten {ls : List (List Int)} {l : List Int} (hG : GoodG ls l) : ls.length + total ls + l.length ≤ 1000000 := by
  have h10 := hG.high
  have hs := hG.same
  have : ∀ m : List (List Int), (∀ k (hk : k < m.length), m[k].length ≤ 10) → total m ≤ 10 * m.length := by
    intro m
    induction m with
    | nil => intro _; simp [total]
    | cons y q ih =>
      intro h
      have h0 := h 0 (by simp)
      have h1 := ih (fun k hk => by have := h (k + 1) (by simp; omega); simpa using this)
      simp only [List.getElem_cons_zero] at h0
      simp only [total, List.map_cons, List.sum_cons, List.length_cons] at h1 ⊢
      omega
  have hk := this ls (fun k hk => by
    have hw := (hG.each k hk).1
    have := rise_len hw.1 hw.2 (by omega)
    omega)
  omega
theorem add_parts {ls : List (List Int)} {l : List Int} {t x : Int} (h : addOk ls l t x = true) : goodG ls l = true ∧ (decide (0 ≤ t) && decide (t < (ls.length : Int))) = true ∧ (decide (0 ≤ x) && decide (x < (ls.length : Int))) = true ∧ hasL (needsAt ls t) x = false ∧ farI ls t x < 0 := by
  unfold addOk addPre at h
  rw [Bool.and_eq_true, Bool.and_eq_true, Bool.and_eq_true, Bool.and_eq_true, decide_eq_true_iff, Bool.not_eq_true'] at h
  exact ⟨h.1.1.1.1, h.1.1.1.2, h.1.1.2, h.1.2, h.2⟩

end Go.Proofs.Ytgolhfmmlanmlaa

/- AddNeed of the program, at all arguments. -/
namespace Go.Proofs.Ytgolhfmmlanmlaa
open Go.RowKit Pth

end Go.Proofs.Ytgolhfmmlanmlaa

/- AddNeed of the reference, where no need is added; a new number put into a list. -/
namespace Go.Proofs.Ytgolhfmmlanmlaa
open Go.RowKit Pth

set_option maxHeartbeats 1000000 in
theorem l1PutN_any (l : List Int) (n : Int) (v : Value) (w : World) (hrow : RowV w v (I l)) (hn : n ∉ l) (hl : l.length ≤ 1000) :
    Calls Try.prog 98 #[v, .int .i64 n] w (IntsPost w.heap.size (putL l n) w) := by
  have HR := Lib.hid hrow
  obtain ⟨a, cap, rfl, hc1, hc2, hat⟩ := HR.out.ints
  clear hrow
  unfold maxLen at hc2
  go_enter Try.func98, Try.ntmps98
  go_wp2_with fail
  go_loop [5] (fun i => ∃ k : Nat, k ≤ l.length ∧ i = .int .i64 k ∧ Hid (putL l n = l.take k ++ putL (l.drop k) n)) (fun i => l.length - (intOf i).toNat)
  case atStart => exact ⟨0, Nat.zero_le _, rfl, put_start l n⟩
  case round =>
    obtain ⟨k, hk, rfl, HO⟩ := hrel
    by_cases hlt : k < l.length
    · obtain ⟨g, o, rfl, hg, hcell⟩ := hat k hlt
      have hlt1 : decide ((k : Int) < (l.length : Int)) = true := by simp; omega
      by_cases hx : l[k] < n
      · have HP := Lib.hid (put_less hlt HO.out hx)
        have hx1 : decide (l[k] < n) = true := by simpa using hx
        generalize l[k] = x at hcell hx hx1
        clear hat HO hx
        go_wp2_with fail
        go_round
        case rel => exact ⟨k + 1, by omega, by go_num, HP⟩
        case measure => simp [intOf]; omega
      · have hx1 : decide (l[k] < n) = false := by simpa using hx
        by_cases hy : l[k] = n
        · exact absurd (by rw [← hy]; exact List.getElem_mem hlt) hn
        · have HP := Lib.hid (put_new HO.out (fun _ => by omega))
          have hy1 : (l[k] == n) = false := by simpa using hy
          generalize l[k] = x at hcell hx hx1 hy hy1
          clear hat HO hx hy
          obtain ⟨hF, A1, cut1, hD⟩ := cutI HR.out hk hc1
          have HF := Lib.hid hF
          have HD := Lib.hid hD
          clear hF hD
          go_wp2_with (at_builtin; first
            | (refine wpAppRow elemI rfl _ _ rfl w.heap.size _ [] (I (l.take k)) _ rfl (World.ownsRow_lit w #[] 0 (Nat.le_refl _) (by unfold maxLen; omega) rfl) rfl (HF.out.alloc _) (I_one _) (by rw [I_len, List.length_take, List.length_nil]; omega) (by simp) ?_
               intro v1 w1 hown1 hg1
               have HN1 := Lib.hid (put_first hown1)
               have HB1 := Lib.hid (((Below.refl _ w).alloc (Nat.le_refl _) _).trans (below_own (World.ownsRow_lit w #[] 0 (Nat.le_refl _) (by unfold maxLen; omega) rfl) hg1 (by simp)))
               clear hown1 hg1)
            | (refine wpAppOne elemI rfl _ _ rfl w.heap.size _ (I (l.take k)) rfl HN1.out _ rfl rfl rfl (by rw [I_len, List.length_take]; omega) HB1.out.size ?_
               intro v2 w2 hown2 hg2
               have HN2 := Lib.hid (put_second hown2)
               have HB2 := Lib.hid (HB1.out.trans (below_own HN1.out hg2 HB1.out.size))
               clear hown2 hg2)
            | (refine wpAppRow elemI rfl _ _ rfl w.heap.size _ (I (l.take k ++ [n])) (I (l.drop k)) _ rfl HN2.out rfl (HD.out.below HB2.out) (I_one _) (by rw [I_len, I_len, List.length_append, List.length_take, List.length_drop, List.length_singleton]; omega) HB2.out.size ?_
               intro v3 w3 hown3 hg3
               have HN3 := Lib.hid (put_third hown3 HP.out)
               have HB3 := Lib.hid (HB2.out.trans (below_own HN2.out hg3 HB2.out.size))
               clear hown3 hg3))
          go_ret
          exact ⟨_, rfl, HN3.out, HB3.out⟩
    · have HP := Lib.hid (put_new HO.out (fun h => absurd h hlt))
      have hlt1 : decide ((k : Int) < (l.length : Int)) = false := by simp; omega
      clear hat HO
      obtain ⟨hF, A1, cut1, hD⟩ := cutI HR.out hk hc1
      have HF := Lib.hid hF
      have HD := Lib.hid hD
      clear hF hD
      go_wp2_with (at_builtin; first
        | (refine wpAppRow elemI rfl _ _ rfl w.heap.size _ [] (I (l.take k)) _ rfl (World.ownsRow_lit w #[] 0 (Nat.le_refl _) (by unfold maxLen; omega) rfl) rfl (HF.out.alloc _) (I_one _) (by rw [I_len, List.length_take, List.length_nil]; omega) (by simp) ?_
           intro v1 w1 hown1 hg1
           have HN1 := Lib.hid (put_first hown1)
           have HB1 := Lib.hid (((Below.refl _ w).alloc (Nat.le_refl _) _).trans (below_own (World.ownsRow_lit w #[] 0 (Nat.le_refl _) (by unfold maxLen; omega) rfl) hg1 (by simp)))
           clear hown1 hg1)
        | (refine wpAppOne elemI rfl _ _ rfl w.heap.size _ (I (l.take k)) rfl HN1.out _ rfl rfl rfl (by rw [I_len, List.length_take]; omega) HB1.out.size ?_
           intro v2 w2 hown2 hg2
           have HN2 := Lib.hid (put_second hown2)
           have HB2 := Lib.hid (HB1.out.trans (below_own HN1.out hg2 HB1.out.size))
           clear hown2 hg2)
        | (refine wpAppRow elemI rfl _ _ rfl w.heap.size _ (I (l.take k ++ [n])) (I (l.drop k)) _ rfl HN2.out rfl (HD.out.below HB2.out) (I_one _) (by rw [I_len, I_len, List.length_append, List.length_take, List.length_drop, List.length_singleton]; omega) HB2.out.size ?_
           intro v3 w3 hown3 hg3
           have HN3 := Lib.hid (put_third hown3 HP.out)
           have HB3 := Lib.hid (HB2.out.trans (below_own HN2.out hg3 HB2.out.size))
           clear hown3 hg3))
      go_ret
      exact ⟨_, rfl, HN3.out, HB3.out⟩

theorem addPre_task (ls : List (List Int)) (l : List Int) (t x : Int) : addPre ls l t x = (taskG ls l t && taskG ls l x && !hasL (needsAt ls t) x) := by
  unfold addPre
  rcases h : goodG ls l with _ | _
  · rw [taskG_good h]; rfl
  · rw [taskG_in h, taskG_in h]; rfl

set_option maxRecDepth 20000 in
set_option maxHeartbeats 8000000 in
theorem specAdd_no (ls : List (List Int)) (l : List Int) (t x : Int) (v : Value) (w : World) (hst : GraphV w v ls l) (hno : addOk ls l t x = false) :
    Calls Try.prog 85 #[v, .int .i64 t, .int .i64 x] w (AddPost [] [] (addM ls l t x) false w) := by
  have HV := Lib.hid hst
  obtain ⟨nv, ov, rfl, h1, h2⟩ := hst
  obtain ⟨an, cn, rfl, hn1, hn2, hat⟩ := h1.lists
  obtain ⟨ao, co, rfl, ho1, ho2, _⟩ := h2.ints
  have HOR := Lib.hid h2
  clear h1 h2
  unfold maxLen at hn2 ho2
  have HAT := Lib.hid hat
  clear hat
  obtain ⟨W0, hW0⟩ : ∃ W0, W0 = (w.alloc (.cells #[.slice an ls.length cn, .slice ao l.length co] 26)).alloc (.cells #[.slice none 0 0, .slice none 0 0] 26) := ⟨_, rfl⟩
  have e1 : (w.alloc (.cells #[.slice an ls.length cn, .slice ao l.length co] 26)).heap.size = w.heap.size + 1 := by simp
  have P0 : Hid (Blk2 W0 w.heap.size 26 (.slice an ls.length cn) (.slice ao l.length co)) := by rw [hW0]; exact Blk2.new.old _
  have R0 : Hid (Blk2 W0 (w.heap.size + 1) 26 (.slice none 0 0) (.slice none 0 0)) := by
    have := Blk2.new (w := w.alloc (.cells #[.slice an ls.length cn, .slice ao l.length co] 26)) (t := 26) (x := .slice none 0 0) (y := .slice none 0 0)
    rw [e1] at this
    rw [hW0]; exact this
  have HB0 : Hid (Below w.heap.size w W0) := by rw [hW0]; exact ((Below.refl w.heap.size w).alloc (Nat.le_refl _) _).alloc (by rw [e1]; omega) _
  have hz0 : w.heap.size + 2 ≤ W0.heap.size := by rw [hW0]; simp
  have HZ0 := Lib.hid hz0
  have hsz : w.heap.size < W0.heap.size := by omega
  have hsz2 : w.heap.size + 1 < W0.heap.size := by omega
  have HW0 := Lib.hid hW0
  clear hW0 e1 hz0
  obtain ⟨c0, c1⟩ := P0.out.cells
  have HT := Lib.hid (fun W (h : Below W0.heap.size W0 W) => l5Task_any ls l t _ W (HV.out.below (bth HB0.out h (Nat.le_refl _))))
  have HX := Lib.hid (fun W (h : Below W0.heap.size W0 W) => l5Task_any ls l x _ W (HV.out.below (bth HB0.out h (Nat.le_refl _))))
  have hM := (add_no hno).2.2
  have HNo : Hid (addPre ls l t x = false → addM ls l t x = []) := fun h => by rw [hM, h]; rfl
  have HYes : Hid (addPre ls l t x = true → addM ls l t x = loopL ls t x ∧ 0 < (loopL ls t x).length) := fun h => by
    have hn := hno
    unfold addOk at hn
    rw [h, Bool.true_and, decide_eq_false_iff_not] at hn
    rw [hM, h]
    refine ⟨rfl, ?_⟩
    rw [loopL, if_neg hn, wayL_len]
    omega
  have HIN : Hid (taskG ls l t = true → GoodG ls l ∧ ∃ j : Nat, t = j ∧ j < ls.length) := fun h => by
    have := taskG_yes h
    exact ⟨this.1, t.toNat, by omega, by omega⟩
  have HIX : Hid (taskG ls l x = true → ∃ j : Nat, x = j ∧ j < ls.length) := fun h => by
    have := taskG_yes h
    exact ⟨x.toNat, by omega, by omega⟩
  have HB3 : Hid (∀ (j : Nat) (hj : j < ls.length), t = j → hasL ls[j] x = hasL (needsAt ls t) x) := fun j hj e => by rw [e, needsAt_get hj]
  have HLO : Hid (∀ W (h : Below W0.heap.size W0 W) (j y : Nat), t = j → x = y → GoodG ls l → j < ls.length → y < ls.length → Calls Try.prog 95 #[.agg #[.slice an ls.length cn, .slice ao l.length co], .int .i64 t, .int .i64 x] W (IntsPost W.heap.size (loopL ls t x) W)) := fun W h j y e1 e2 hG h1 h2 => by
    rw [e1, e2]
    exact l5Loop_any ls l j y _ W (HV.out.below (bth HB0.out h (Nat.le_refl _))) hG h1 h2
  rw [addPre_task] at HNo HYes
  clear hM hno
  generalize addM ls l t x = M at *
  generalize loopL ls t x = LL at *
  generalize taskG ls l t = b1 at *
  generalize taskG ls l x = b2 at *
  generalize hasL (needsAt ls t) x = b3 at *
  go_enter Try.func85, Try.ntmps85
  go_wp2_with fail
  rw [← HW0.out]
  refine (HT.out W0 (Below.refl _ _)).mono ?_
  rintro e w1 ⟨rfl, hb1⟩
  have K1 := Lib.hid hb1
  obtain ⟨p1, q1⟩ := (P0.out.below K1.out hsz).cells
  clear hb1 c0 c1
  cases b1 with
  | false =>
    have hR := HNo.out (by simp)
    subst hR
    clear HNo HYes HIN HIX HB3 HT HX HLO p1 q1
    have R := Lib.hid (R0.out.below K1.out hsz2)
    have q0 := R.out.cells.1
    have q1 := R.out.cells.2
    have f0 := R.out.soft 0
    have f1 := R.out.soft 1
    have HZ := Lib.hid ((R.out.set0 (.slice none 0 0)).set1 (.slice none 0 0))
    go_wp2_with fail
    refine bodyPost_ret (results_cell3 rfl rfl (load_store2 HZ.out.cells.1 HZ.out.cells.2)) rfl ?_
    exact ⟨_, _, rfl, GraphM.none (none_ownZ _ _ _), ((bth HB0.out K1.out (Nat.le_refl _)).setCell (p := ⟨w.heap.size + 1, 0, none⟩) (by show w.heap.size ≤ w.heap.size + 1; omega) _).setCell (p := ⟨w.heap.size + 1, 1, none⟩) (by show w.heap.size ≤ w.heap.size + 1; omega) _⟩
  | true =>
    go_wp2_with fail
    refine (HX.out w1 K1.out).mono ?_
    rintro e w2 ⟨rfl, hb2⟩
    have K2 := Lib.hid (bth K1.out hb2 (Nat.le_refl _))
    obtain ⟨p2, q2⟩ := (P0.out.below K2.out hsz).cells
    clear hb2 p1 q1
    cases b2 with
    | false =>
      have hR := HNo.out (by simp)
      subst hR
      clear HNo HYes HIN HIX HB3 HT HX HLO p2 q2
      have R := Lib.hid (R0.out.below K2.out hsz2)
      have q0 := R.out.cells.1
      have q1 := R.out.cells.2
      have f0 := R.out.soft 0
      have f1 := R.out.soft 1
      have HZ := Lib.hid ((R.out.set0 (.slice none 0 0)).set1 (.slice none 0 0))
      go_wp2_with fail
      refine bodyPost_ret (results_cell3 rfl rfl (load_store2 HZ.out.cells.1 HZ.out.cells.2)) rfl ?_
      exact ⟨_, _, rfl, GraphM.none (none_ownZ _ _ _), ((bth HB0.out K2.out (Nat.le_refl _)).setCell (p := ⟨w.heap.size + 1, 0, none⟩) (by show w.heap.size ≤ w.heap.size + 1; omega) _).setCell (p := ⟨w.heap.size + 1, 1, none⟩) (by show w.heap.size ≤ w.heap.size + 1; omega) _⟩
    | true =>
      obtain ⟨hGG, j, ej, hj⟩ := HIN.out (by trivial)
      obtain ⟨y, ey, hy⟩ := HIX.out (by trivial)
      obtain ⟨g, o, a2, c2, rfl, hg, hcell0, hrk⟩ := HAT.out j hj
      have HKW := Lib.hid (bth HB0.out K2.out (Nat.le_refl _))
      have hcell : w2.cell? ⟨g, o + j, none⟩ = some (.slice a2 ls[j].length c2) := by rw [HKW.out.cell (p := ⟨g, o + j, none⟩) hg]; exact hcell0
      have hC := l1Has_any ls[j] x _ w2 (hrk.below HKW.out)
      rw [HB3.out j hj ej] at hC
      have HC := Lib.hid hC
      have HL := Lib.hid (HLO.out w2 K2.out j y ej ey hGG hj hy)
      subst ej
      have hj2 : (j : Int) < (ls.length : Int) := by omega
      clear hC hcell0 hrk HIN HIX HB3 HT HX HAT HLO hGG ey
      generalize ls[j].length = nj at hcell HC
      go_wp2_with fail
      refine HC.out.mono ?_
      rintro e w4 ⟨rfl, rfl⟩
      cases b3 with
      | true =>
        have hR := HNo.out (by simp)
        subst hR
        clear HNo HYes HL p2 q2 HC
        have R := Lib.hid (R0.out.below K2.out hsz2)
        have q0 := R.out.cells.1
        have q1 := R.out.cells.2
        have f0 := R.out.soft 0
        have f1 := R.out.soft 1
        have HZ := Lib.hid ((R.out.set0 (.slice none 0 0)).set1 (.slice none 0 0))
        go_wp2_with fail
        refine bodyPost_ret (results_cell3 rfl rfl (load_store2 HZ.out.cells.1 HZ.out.cells.2)) rfl ?_
        exact ⟨_, _, rfl, GraphM.none (none_ownZ _ _ _), ((bth HB0.out K2.out (Nat.le_refl _)).setCell (p := ⟨w.heap.size + 1, 0, none⟩) (by show w.heap.size ≤ w.heap.size + 1; omega) _).setCell (p := ⟨w.heap.size + 1, 1, none⟩) (by show w.heap.size ≤ w.heap.size + 1; omega) _⟩
      | false =>
        obtain ⟨rfl, hLL⟩ := HYes.out (by simp)
        have hLd : decide ((M.length : Int) > 0) = true := by rw [decide_eq_true_iff]; omega
        clear HNo HYes HC
        go_wp2_with fail
        refine HL.out.mono ?_
        rintro e w4 ⟨u4, rfl, ho4, hb4⟩
        have K4 := Lib.hid (bth K2.out hb4 (Nat.le_refl _))
        have hlt : w.heap.size + 1 < w2.heap.size := Nat.lt_of_lt_of_le hsz2 K2.out.size
        have HO3 := Lib.hid ho4
        obtain ⟨ua, uc, rfl⟩ := own_slice ho4
        clear hb4 ho4 p2 q2 HL
        have R := Lib.hid (R0.out.below K4.out hsz2)
        have q0 := R.out.cells.1
        have q1 := R.out.cells.2
        have f0 := R.out.soft 0
        have f1 := R.out.soft 1
        have HZ := Lib.hid ((R.out.set0 (.slice none 0 0)).set1 (.slice none 0 0))
        go_wp2_with fail
        refine bodyPost_ret (results_cell3 rfl rfl (load_store2 HZ.out.cells.1 HZ.out.cells.2)) rfl ?_
        exact ⟨_, _, rfl, GraphM.none (own_base (own_setI (own_setI HO3.out (p := ⟨w.heap.size + 1, 0, none⟩) hlt _) (p := ⟨w.heap.size + 1, 1, none⟩) hlt _) (by omega)), ((bth HB0.out K4.out (Nat.le_refl _)).setCell (p := ⟨w.heap.size + 1, 0, none⟩) (by show w.heap.size ≤ w.heap.size + 1; omega) _).setCell (p := ⟨w.heap.size + 1, 1, none⟩) (by show w.heap.size ≤ w.heap.size + 1; omega) _⟩
end Go.Proofs.Ytgolhfmmlanmlaa

/- AddNeed of the reference, where a need is added, given what l5Mend does. -/
namespace Go.Proofs.Ytgolhfmmlanmlaa
open Go.RowKit Pth

/-- What l5Mend does: the order's row is turned into the mended order, what moved is told in new memory. -/
def MendC : Prop := ∀ (ls : List (List Int)) (l : List Int) (t x : Nat) (B gO cO : Nat) (nv : Value) (w : World), GraphV w (.agg #[nv, .slice (some ⟨gO, 0, none⟩) l.length cO]) ls l → w.ownsRow B 3 1 (.slice (some ⟨gO, 0, none⟩) l.length cO) l.length (I l) → GoodG ls l → t < ls.length → x < ls.length → farI ls t x < 0 →
    Calls Try.prog 97 #[.agg #[nv, .slice (some ⟨gO, 0, none⟩) l.length cO], .int .i64 (t : Int), .int .i64 (x : Int)] w fun e w' => ∃ u, e = .returned u ∧ w'.ownsRow w.heap.size 3 1 u (sortI (movedL l (mendO ls l t x))).length (I (sortI (movedL l (mendO ls l t x)))) ∧ w'.ownsRow B 3 1 (.slice (some ⟨gO, 0, none⟩) l.length cO) l.length (I (mendO ls l t x)) ∧ w.grownBy w' (some gO)
theorem total_tenK {ls : List (List Int)} {l : List Int} (hG : GoodG ls l) : ls.length + total ls + l.length ≤ 1000 := by
  have h10 := hG.high
  have hs := hG.same
  have : ∀ m : List (List Int), (∀ k (hk : k < m.length), m[k].length ≤ 10) → total m ≤ 10 * m.length := by
    intro m
    induction m with
    | nil => intro _; simp [total]
    | cons y q ih =>
      intro h
      have h0 := h 0 (by simp)
      have h1 := ih (fun k hk => by have := h (k + 1) (by simp; omega); simpa using this)
      simp only [List.getElem_cons_zero] at h0
      simp only [total, List.map_cons, List.sum_cons, List.length_cons] at h1 ⊢
      omega
  have hk := this ls (fun k hk => by
    have hw := (hG.each k hk).1
    have := rise_len hw.1 hw.2 (by omega)
    omega)
  omega
/-- One list more, in newer memory than what the others lie in. -/
theorem Lists.newer {B C : Nat} {w : World} {L : List (Value × List Int)} {v : Value} {l : List Int} (h : Lists B w L) (hown : w.ownsRow C 3 1 v l.length (I l)) (hC : B ≤ C) (hl : ∀ p ∈ L, ∀ b, p.1.ownBlock = some b → b < C) : Lists B w (L ++ [(v, l)]) :=
  h.more (own_base hown hC) (fun p hp b h1 h2 => by have := hl p hp b h1; have := (hown.lt b h2).1; omega)

set_option maxRecDepth 20000 in
set_option maxHeartbeats 8000000 in
theorem specAdd_yes (hMC : MendC) (ls : List (List Int)) (l : List Int) (j y : Nat) (t x : Int) (ht : t = j) (hx : x = y) (v : Value) (w : World) (hst : GraphV w v ls l) (hyes : addOk ls l t x = true) :
    Calls Try.prog 85 #[v, .int .i64 t, .int .i64 x] w (AddPost (ls.set j (putL (needsAt ls t) x)) (mendO ls l t x) (sortI (movedL l (mendO ls l t x))) true w) := by
  have HV := Lib.hid hst
  obtain ⟨nv, ov, rfl, h1, h2⟩ := hst
  obtain ⟨an, cn, rfl, hn1, hn2, hat⟩ := h1.lists
  obtain ⟨ao, co, rfl, ho1, ho2, _⟩ := h2.ints
  have HOR := Lib.hid h2
  clear h1 h2
  unfold maxLen at hn2 ho2
  have HAT := Lib.hid hat
  clear hat
  obtain ⟨W0, hW0⟩ : ∃ W0, W0 = (w.alloc (.cells #[.slice an ls.length cn, .slice ao l.length co] 26)).alloc (.cells #[.slice none 0 0, .slice none 0 0] 26) := ⟨_, rfl⟩
  have e1 : (w.alloc (.cells #[.slice an ls.length cn, .slice ao l.length co] 26)).heap.size = w.heap.size + 1 := by simp
  have P0 : Hid (Blk2 W0 w.heap.size 26 (.slice an ls.length cn) (.slice ao l.length co)) := by rw [hW0]; exact Blk2.new.old _
  have R0 : Hid (Blk2 W0 (w.heap.size + 1) 26 (.slice none 0 0) (.slice none 0 0)) := by
    have := Blk2.new (w := w.alloc (.cells #[.slice an ls.length cn, .slice ao l.length co] 26)) (t := 26) (x := .slice none 0 0) (y := .slice none 0 0)
    rw [e1] at this
    rw [hW0]; exact this
  have HB0 : Hid (Below w.heap.size w W0) := by rw [hW0]; exact ((Below.refl w.heap.size w).alloc (Nat.le_refl _) _).alloc (by rw [e1]; omega) _
  have hz0 : w.heap.size + 2 ≤ W0.heap.size := by rw [hW0]; simp
  have HZ0 := Lib.hid hz0
  have hsz : w.heap.size < W0.heap.size := by omega
  have hsz2 : w.heap.size + 1 < W0.heap.size := by omega
  have HW0 := Lib.hid hW0
  clear hW0 e1 hz0
  obtain ⟨c0, c1⟩ := P0.out.cells
  have HT := Lib.hid (fun W (h : Below W0.heap.size W0 W) => l5Task_any ls l t _ W (HV.out.below (bth HB0.out h (Nat.le_refl _))))
  have HX := Lib.hid (fun W (h : Below W0.heap.size W0 W) => l5Task_any ls l x _ W (HV.out.below (bth HB0.out h (Nat.le_refl _))))
  obtain ⟨hb0, hb1, hb2, hb3, hfar⟩ := add_parts hyes
  have hGG := goodG_iff.1 hb0
  have HGG := Lib.hid hGG
  have HTT := Lib.hid (total_tenK hGG)
  rw [taskG_in hb0, hb1] at HT
  rw [taskG_in hb0, hb2] at HX
  have hj : j < ls.length := by simp only [Bool.and_eq_true, decide_eq_true_eq] at hb1; omega
  have hy : y < ls.length := by simp only [Bool.and_eq_true, decide_eq_true_eq] at hb2; omega
  have hnot : x ∉ ls[j] := by rw [ht, needsAt_get hj, hasL, decide_eq_false_iff_not] at hb3; exact hb3
  have HPT : Hid (putL ls[j] x = putL (needsAt ls t) x) := by show _ = _; rw [ht, needsAt_get hj]
  have hlj : ls[j].length ≤ 10 := by
    have hw := (HGG.out.each j hj).1
    have := rise_len hw.1 hw.2 (by omega)
    have := HGG.out.high
    omega
  have HLP : Hid (∀ W (_ : Below W0.heap.size W0 W), Calls Try.prog 95 #[.agg #[.slice an ls.length cn, .slice ao l.length co], .int .i64 t, .int .i64 x] W (IntsPost W.heap.size [] W)) := fun W h => by
    have := l5Loop_any ls l j y _ W (HV.out.below (bth HB0.out h (Nat.le_refl _))) HGG.out hj hy
    rw [← ht, ← hx, loopL, if_pos hfar] at this
    exact this
  have HMD : Hid (∀ B gO cO nv W, GraphV W (.agg #[nv, .slice (some ⟨gO, 0, none⟩) l.length cO]) ls l → World.ownsRow W B 3 1 (.slice (some ⟨gO, 0, none⟩) l.length cO) l.length (I l) → Calls Try.prog 97 #[.agg #[nv, .slice (some ⟨gO, 0, none⟩) l.length cO], .int .i64 t, .int .i64 x] W fun e w' => ∃ u, e = .returned u ∧ w'.ownsRow W.heap.size 3 1 u (sortI (movedL l (mendO ls l t x))).length (I (sortI (movedL l (mendO ls l t x)))) ∧ w'.ownsRow B 3 1 (.slice (some ⟨gO, 0, none⟩) l.length cO) l.length (I (mendO ls l t x)) ∧ W.grownBy w' (some gO)) := fun B gO cO nv W h1 h2 => by
    have := hMC ls l j y B gO cO nv W h1 h2 HGG.out hj hy (by rw [← ht, ← hx]; exact hfar)
    rw [← ht, ← hx] at this
    exact this
  have HMOL : Hid (∀ B v W, World.ownsRow W B 3 1 v l.length (I (mendO ls l t x)) → (mendO ls l t x).length = l.length) := fun B v W h => by
    have := h.1
    rw [I_len] at this
    omega
  have hll : 0 < l.length := by have := HGG.out.same; omega
  obtain ⟨g, o, a2, c2, rfl, hg, hcell0, hrk⟩ := HAT.out j hj
  have HC3 : Hid (∀ W, Below w.heap.size w W → Calls Try.prog 77 #[.slice a2 ls[j].length c2, .int .i64 x] W fun e w' => e = .returned (.bool false) ∧ W = w') := fun W h => by
    have := l1Has_any ls[j] x _ W (hrk.below h)
    rw [show hasL ls[j] x = false by rw [← hb3, ht, needsAt_get hj]] at this
    exact this
  have HOG := Lib.hid (fun W (h : Below W0.heap.size W0 W) => l5Own_any ls l (.agg #[.slice (some ⟨g, o, none⟩) ls.length cn, .slice ao l.length co]) W (HV.out.below (bth HB0.out h (Nat.le_refl _))) HTT.out)
  have HPU := Lib.hid (fun u W (h : RowV W u (I ls[j])) => l1PutN_any ls[j] x u W h hnot (by omega))
  rw [HPT.out] at HPU
  generalize putL (needsAt ls t) x = P at *
  generalize sortI (movedL l (mendO ls l t x)) = M at *
  generalize hmo : mendO ls l t x = mo at *
  clear hmo hb0 hb1 hb2 hb3 hfar hyes hnot hGG hrk hx HPT
  have hj2 : (j : Int) < (ls.length : Int) := by omega
  subst ht
  generalize hnj : ls[j].length = nj at hcell0 HC3
  go_enter Try.func85, Try.ntmps85
  go_wp2_with fail
  rw [← HW0.out]
  refine (HT.out W0 (Below.refl _ _)).mono ?_
  rintro e w2 ⟨rfl, hb2⟩
  have K2 := Lib.hid hb2
  obtain ⟨p2, q2⟩ := (P0.out.below K2.out hsz).cells
  clear hb2 c0 c1
  go_wp2_with fail
  refine (HX.out w2 K2.out).mono ?_
  rintro e w3 ⟨rfl, hb3⟩
  have K3 := Lib.hid (bth K2.out hb3 (Nat.le_refl _))
  obtain ⟨p3, q3⟩ := (P0.out.below K3.out hsz).cells
  clear hb3 p2 q2
  have HK3 := Lib.hid (bth HB0.out K3.out (Nat.le_refl _))
  have hcell : w3.cell? ⟨g, o + j, none⟩ = some (.slice a2 nj c2) := by rw [HK3.out.cell (p := ⟨g, o + j, none⟩) hg]; exact hcell0
  go_wp2_with fail
  refine (HC3.out w3 HK3.out).mono ?_
  rintro e w4 ⟨rfl, rfl⟩
  clear hcell HC3 HT HX
  go_wp2_with fail
  refine (HLP.out w3 K3.out).mono ?_
  rintro e w4 ⟨u4, rfl, ho4, hb4⟩
  have K4 := Lib.hid (bth K3.out hb4 (Nat.le_refl _))
  obtain ⟨p4, q4⟩ := (P0.out.below K4.out hsz).cells
  obtain ⟨ua, uc, rfl⟩ := own_slice ho4
  rw [show ([] : List Int).length = 0 from rfl]
  clear hb4 ho4 p3 q3 HLP
  go_wp2_with fail
  refine (HOG.out w4 K4.out).mono ?_
  rintro e w5 ⟨v5, rfl, ho5, hb5⟩
  have K5 := Lib.hid (bth K4.out hb5 (Nat.le_refl _))
  obtain ⟨nv, ov, sl, hv5, hs5, hn5, hL5⟩ := ho5
  obtain ⟨b1, d1', rfl⟩ := own_slice hn5
  have hov5 := hL5.1 (ov, l) (List.mem_append.2 (.inr (List.mem_singleton.2 rfl)))
  simp only at hov5
  obtain ⟨b2, d2', hov⟩ := own_slice hov5
  subst hov hv5
  obtain ⟨gO, hb2'⟩ : ∃ gO, b2 = some ⟨gO, 0, none⟩ := by
    rcases hov5.2 with ⟨_, h0⟩ | ⟨gN, cap, cur, hv, _⟩
    · omega
    · injection hv with hv1 _ _; exact ⟨gN, hv1⟩
  obtain ⟨gN, hb1', hc1⟩ : ∃ gN, b1 = some ⟨gN, 0, none⟩ ∧ ls.length ≤ d1' := by
    rcases hn5.2 with ⟨_, h0⟩ | ⟨gN, cap, cur, hv, _, _, hcap, _⟩
    · omega
    · injection hv with hv1 _ hv3; exact ⟨gN, hv1, by omega⟩
  subst hb1' hb2'
  obtain ⟨w6, hw6⟩ : ∃ w6, w6 = w5.alloc (.cells #[.slice (some ⟨gN, 0, none⟩) ls.length d1', .slice (some ⟨gO, 0, none⟩) l.length d2'] 26) := ⟨_, rfl⟩
  have hA6 : Below w5.heap.size w5 w6 := by rw [hw6]; exact (Below.refl w5.heap.size w5).alloc (Nat.le_refl _) _
  have G6 : Hid (Blk2 w6 w5.heap.size 26 (.slice (some ⟨gN, 0, none⟩) ls.length d1') (.slice (some ⟨gO, 0, none⟩) l.length d2')) := by rw [hw6]; exact Blk2.new
  have HN6 := Lib.hid (own_below hn5 hA6)
  have HL6 := Lib.hid (hL5.below hA6)
  have K6 := Lib.hid (bth K5.out hA6 (Nat.le_refl _))
  have s6 : w5.heap.size < w6.heap.size := lt_of_block G6.out
  have s5 := hb5.size
  have s4 := K4.out.size
  obtain ⟨p6, q6⟩ := (P0.out.below K6.out hsz).cells
  obtain ⟨g0, g1⟩ := G6.out.cells
  have Hw6 := Lib.hid hw6
  have HHS := Lib.hid hs5
  have hsj : j < sl.length := by omega
  have HOV6 := Lib.hid (own_below hov5 hA6)
  have hgO := hov5.lt gO rfl
  have hgN := hn5.lt gN rfl
  have hM := HMD.out w4.heap.size gO d2' (.slice (some ⟨gN, 0, none⟩) ls.length d1') w6 (GraphO.view ⟨_, _, sl, rfl, hs5, HN6.out, HL6.out⟩) HOV6.out
  have HM := Lib.hid hM
  clear hM hw6 hA6 hb5 hn5 hL5 hov5 p4 q4 HMD HOG hs5
  go_wp2_with fail
  rw [← Hw6.out]
  go_wp2_with fail
  refine HM.out.mono ?_
  rintro e w7 ⟨u7, rfl, hu7, ho7, hg7⟩
  have hmo : mo.length = l.length := HMOL.out w4.heap.size _ w7 ho7
  have HOV7 : Hid (w7.ownsRow w4.heap.size 3 1 (.slice (some ⟨gO, 0, none⟩) l.length d2') mo.length (I mo)) := by show World.ownsRow _ _ _ _ _ _ _; rw [hmo]; exact ho7
  have HL7 : Hid (Lists w4.heap.size w7 (sl.zip ls ++ ([(.slice (some ⟨gO, 0, none⟩) l.length d2', mo)] ++ [(u7, M)]))) := by
    rw [← List.append_assoc]
    refine (HL6.out.turn (M := []) hg7 HOV7.out (fun b h => .inl h)).newer hu7 (by omega) (fun p hp b hb => ?_)
    rw [List.mem_append, List.mem_singleton] at hp
    rcases hp with hp | rfl
    · exact ((HL6.out.1 p (List.mem_append.2 (.inl hp))).lt b hb).2
    · exact (HOV6.out.lt b hb).2
  have HN7 := Lib.hid (own_apartI HN6.out (u := .slice (some ⟨gO, 0, none⟩) l.length d2') hg7 (fun i hi hi' => own_typesI HN6.out HOV6.out (by decide) i hi' hi))
  have G7 := Lib.hid (G6.out.beside hg7 (fun e => by have := Option.some.inj e; omega))
  have K7 := Lib.hid (K6.out.trans (only_below hg7 (by omega) K6.out.size))
  have s7 := hg7.size
  have hoj := HL7.out.1 (sl[j], ls[j]) (List.mem_append.2 (.inl (zip_get hsj hj)))
  simp only at hoj
  obtain ⟨ya, yc, hyj⟩ := own_slice hoj
  rw [hyj] at hoj
  obtain ⟨ma, mc, rfl⟩ := own_slice hu7
  rw [hnj] at hyj hoj
  have r7 : w7.cell? ⟨gN, j, none⟩ = some (.slice ya nj yc) := by rw [HN7.out.cellAt j (by omega), List.getElem?_eq_getElem hsj, hyj]
  have p7 := G7.out.cells.1
  have HP7 := Lib.hid (HPU.out (.slice ya nj yc) w7.drew (RowV.of_own hoj))
  have HYJ := Lib.hid hyj
  clear hu7 ho7 hg7 HM p6 q6 g0 g1 hmo hoj hyj HPU
  go_wp2_with fail
  go_region_law
    (first
      | (go_simp; go_at_call 98
         refine HP7.out.mono ?_
         rintro e w8 ⟨u8, rfl, ho8, hb8⟩
         have hd8 := undrew hb8
         have HD8 := Lib.hid hd8
         have HO8 := Lib.hid ho8
         have G8 := Lib.hid (G7.out.below hd8 (lt_of_block G7.out))
         have HN8 := Lib.hid (own_below HN7.out hd8)
         have p7 := G8.out.cells.1
         have r8 : w8.cell? ⟨gN, j, none⟩ = some (.slice ya nj yc) := by rw [HN8.out.cellAt j (by omega), List.getElem?_eq_getElem hsj, HYJ.out]
         have f8 := HN8.out.frozenAt j
         obtain ⟨za, zc, rfl⟩ := own_slice ho8
         clear hb8 hd8 ho8))
  all_goals
    have hst := HN8.out.stored j (.slice za P.length zc)
    have hLp := HL7.out.put (u := .slice za P.length zc) (x := P) HHS.out hj (below_grown HD8.out) (own_base HO8.out (by show w4.heap.size ≤ w7.heap.size; omega)) (fun i hi => .inr (HO8.out.lt i hi).1)
    obtain ⟨w9, hw9⟩ : ∃ w9, w9 = w8.setCell ⟨gN, j, none⟩ (.slice za P.length zc) := ⟨_, rfl⟩
    rw [← hw9] at hst
    have HL9 := Lib.hid (hLp.outer HN8.out (by decide) hst.2)
    have HN9 := Lib.hid hst.1
    have s8 := HD8.out.size
    have G9 := Lib.hid (G8.out.beside hst.2 (fun e => by have := Option.some.inj e; omega))
    have K8 := Lib.hid (bth K7.out HD8.out (Nat.le_refl _))
    have K9 := Lib.hid (K8.out.trans (only_below hst.2 (by omega) K8.out.size))
    have HB9 := Lib.hid (bth HB0.out K9.out (Nat.le_refl _))
    have RR := Lib.hid (R0.out.below K9.out hsz2)
    obtain ⟨x0, x1⟩ := G9.out.cells
    obtain ⟨q0, q1⟩ := RR.out.cells
    have f0 := RR.out.soft 0
    have f1 := RR.out.soft 1
    have hzz : w.heap.size + 1 < w4.heap.size := Nat.lt_of_lt_of_le hsz2 s4
    have HZ := Lib.hid ((RR.out.set0 (.slice (some ⟨gN, 0, none⟩) ls.length d1')).set1 (.slice (some ⟨gO, 0, none⟩) l.length d2'))
    rw [← hw9]
    clear hst hLp hw9
    go_wp2_with fail
    refine bodyPost_ret (results_cell3 rfl rfl (load_store2 HZ.out.cells.1 HZ.out.cells.2)) rfl ?_
    refine ⟨_, _, rfl, ⟨_, _, sl.set j (.slice za P.length zc), rfl, by rw [List.length_set, List.length_set]; exact HHS.out, by rw [List.length_set]; exact own_base (own_setI (own_setI HN9.out (p := ⟨w.heap.size + 1, 0, none⟩) hzz _) (p := ⟨w.heap.size + 1, 1, none⟩) hzz _) (by omega), ?_⟩, ?_⟩
    · rw [List.append_assoc]
      exact ((HL9.out.set (p := ⟨w.heap.size + 1, 0, none⟩) hzz _).set (p := ⟨w.heap.size + 1, 1, none⟩) hzz _).base (by omega)
    · exact (HB9.out.setCell (p := ⟨w.heap.size + 1, 0, none⟩) (by show w.heap.size ≤ w.heap.size + 1; omega) _).setCell (p := ⟨w.heap.size + 1, 1, none⟩) (by show w.heap.size ≤ w.heap.size + 1; omega) _
theorem specAdd_any (hMC : MendC) (ls : List (List Int)) (l : List Int) (t x : Int) (v : Value) (w : World) (hst : GraphV w v ls l) :
    Calls Try.prog 85 #[v, .int .i64 t, .int .i64 x] w (AddPost (addG ls l t x) (addO ls l t x) (addM ls l t x) (addOk ls l t x) w) := by
  rcases h : addOk ls l t x with _ | _
  · rw [(add_no h).1, (add_no h).2.1]
    exact specAdd_no ls l t x v w hst h
  · obtain ⟨_, h1, h2, _, _⟩ := add_parts h
    simp only [Bool.and_eq_true, decide_eq_true_eq] at h1 h2
    rw [(add_yes h).1, (add_yes h).2.1, (add_yes h).2.2]
    exact specAdd_yes hMC ls l t.toNat x.toNat t x (by omega) (by omega) v w hst h
end Go.Proofs.Ytgolhfmmlanmlaa

/- The laws' marks in a graph, where a list lies beside it. -/
namespace Go.Proofs.Ytgolhfmmlanmlaa
open Go.RowKit Pth

theorem GraphM.below {B : Nat} {w w' : World} {v u : Value} {ls : List (List Int)} {l m : List Int} (h : GraphM B w v u ls l m) (hb : Below w.heap.size w w') : GraphM B w' v u ls l m := by
  obtain ⟨nv, ov, sl, h1, h2, h3, h4⟩ := h
  exact ⟨nv, ov, sl, h1, h2, own_below h3 hb, h4.below hb⟩
theorem GraphM.only {B C D : Nat} {w w' : World} {v u : Value} {ls : List (List Int)} {l m : List Int} (h : GraphM D w v u ls l m) (hg : OnlyIn B C w w') (hD : C ≤ D) : GraphM D w' v u ls l m := by
  obtain ⟨nv, ov, sl, h1, h2, h3, h4⟩ := h
  exact ⟨nv, ov, sl, h1, h2, own_only h3 hg hD, fun p hp => own_only (h4.1 p hp) hg hD, h4.2⟩
/-- The list beside the graph has turned. -/
theorem GraphM.turn {B : Nat} {w w' : World} {v u : Value} {ls : List (List Int)} {l m m' : List Int} (h : GraphM B w v u ls l m) (hg : w.grownBy w' u.ownBlock) (hown : w'.ownsRow B 3 1 u m'.length (I m')) : GraphM B w' v u ls l m' := by
  obtain ⟨nv, ov, sl, h1, h2, h3, h4⟩ := h
  have hu := h4.1 (u, m) (List.mem_append.2 (.inr (List.mem_singleton.2 rfl)))
  exact ⟨nv, ov, sl, h1, h2, own_apartI h3 hg (fun i hi hi' => own_typesI h3 hu (by decide) i hi' hi), h4.turn (M := []) hg hown (fun b hb => .inl hb)⟩

set_option maxRecDepth 20000 in
set_option maxHeartbeats 4000000 in
theorem markGraphM_any (ls : List (List Int)) (l m : List Int) (k B : Nat) (v u : Value) (w0 w : World) (h0 : GraphM B w0 v u ls l m) (hb0 : Below w0.heap.size w0 w) (hB : B ≤ w0.heap.size) (hl : ls.length + total ls + l.length ≤ 1500000) (hk : k ≤ 1000) :
    Calls Try.prog 35 #[v, .int .i64 (k : Int)] w fun e w' => e = .returned (.int .i64 ((k + totalG ls l : Nat) : Int)) ∧ GraphM B w' v u (marksL k ls) (marks ((k + total ls : Nat) : Int) l.length) m ∧ OnlyIn B w0.heap.size w w' := by
  obtain ⟨nv, ov, sl, rfl, hs, hn, hL3⟩ := h0
  have hL := hL3.left
  rw [List.append_assoc] at hL3
  have hlt : ∀ p ∈ sl.zip ls ++ [(ov, l)], ∀ i, p.1.ownBlock = some i → B ≤ i ∧ i < w0.heap.size := fun p hp i hi => (hL.1 p hp).lt i hi
  have HLT := Lib.hid hlt
  have hnw := own_below hn hb0
  have hLw := hL.below hb0
  obtain ⟨an, cn, rfl⟩ := own_slice hn
  obtain ⟨ao, co, hov⟩ := own_slice (hL.1 (ov, l) (List.mem_append.2 (.inr (List.mem_singleton.2 rfl))))
  simp only at hov
  subst hov
  obtain ⟨wa, hwa⟩ : ∃ wa, wa = w.alloc (.cells #[.slice an ls.length cn, .slice ao l.length co] 26) := ⟨_, rfl⟩
  have P0 : Hid (Blk2 wa w.heap.size 26 (.slice an ls.length cn) (.slice ao l.length co)) := by rw [hwa]; exact Blk2.new
  have hAw : Below w.heap.size w wa := by rw [hwa]; exact (Below.refl w.heap.size w).alloc (Nat.le_refl _) _
  have HA := Lib.hid hAw
  have hsa : wa.heap.size = w.heap.size + 1 := by rw [hwa]; simp
  have hsw : w0.heap.size ≤ w.heap.size := hb0.size
  have HN := Lib.hid (own_below hnw hAw)
  have HL := Lib.hid (hLw.below hAw)
  have HL3 := Lib.hid ((hL3.below hb0).below hAw)
  have HWA := Lib.hid hwa
  have HC := Lib.hid (markIntSS_any ls ([(.slice ao l.length co, l)] ++ [(u, m)]) k B B _ sl wa hs HN.out HL3.out (by omega) (by omega))
  have hpb : ∀ (L : List (Value × List Int)) (x y : World), GrownL x y L → (∀ p ∈ L, p ∈ sl.zip ls ++ [(.slice ao l.length co, l)]) → w.heap.size < x.heap.size → x.heap[w.heap.size]? = y.heap[w.heap.size]? := by
    intro L x y hg hm hx
    refine (hg.block w.heap.size hx (fun p hp hi => ?_)).symm
    have := (HLT.out p (hm p hp) _ hi).2
    omega
  have HPB := Lib.hid hpb
  clear hL3 hlt hnw hLw hn hL hAw hwa hpb hb0
  go_enter Try.func35, Try.ntmps35
  go_wp2_with fail
  rw [← HWA.out]
  refine HC.out.mono ?_
  rintro e w1 ⟨rfl, hL1, hg1⟩
  have hm1 : ∀ p ∈ sl.zip ls, p ∈ sl.zip ls ++ [(Value.slice ao l.length co, l)] := fun p hp => List.mem_append.2 (.inl hp)
  have P1 := Lib.hid (show Blk2 w1 w.heap.size 26 (.slice an ls.length cn) (.slice ao l.length co) from (HPB.out _ _ _ hg1 hm1 (by omega)).symm.trans P0.out)
  have hn1 := own_grownL HN.out (by decide) HL.out.left hg1
  have c1 := P1.out.cells.2
  have hone := hL1.1 (.slice ao l.length co, l) (List.mem_append.2 (.inr (List.mem_append.2 (.inl (List.mem_singleton.2 rfl)))))
  have HC2 := Lib.hid (markIntS_l (l := l) (k := k + total ls) (i := ((k + total ls : Nat) : Int)) (r := ((k + totalG ls l : Nat) : Int)) rfl (by unfold totalG; omega) hone (by omega) (by omega))
  have HG1 := Lib.hid (hg1.more hm1)
  have HL1 := Lib.hid hL1
  have HN1 := Lib.hid hn1
  clear hL1 hg1 hn1 hone hm1 HC
  generalize hq : k + total ls = q at *
  have HQ := Lib.hid hq
  clear hq
  go_wp2_with fail
  refine HC2.out.mono ?_
  rintro e w2 ⟨rfl, ho2, hg2⟩
  have HF : Hid (GraphM B w2 (.agg #[.slice an ls.length cn, .slice ao l.length co]) u (marksL k ls) (marks (q : Int) l.length) m ∧ OnlyIn B w0.heap.size w w2) := by
    have hL2 := HL1.out.turn (L := sl.zip (marksL k ls)) (M := [(u, m)]) (v' := .slice ao l.length co) (l' := marks (q : Int) l.length) hg2 (by rw [marks_len]; exact ho2) (fun b hb => .inl hb)
    have hg := HG1.out.one hg2 (l := l) (List.mem_append.2 (.inr (List.mem_singleton.2 rfl)))
    have hml := marksL_len k ls
    refine ⟨⟨_, _, sl, rfl, by rw [hml]; exact hs, ?_, by rw [List.append_assoc]; exact hL2⟩, ?_, fun i hi hiw => ?_, fun i cs e he hi => ?_⟩
    · rw [hml]
      exact own_apartI HN1.out hg2 (fun i hi hi' => own_typesI HN1.out (HL1.out.1 (.slice ao l.length co, l) (List.mem_append.2 (.inr (List.mem_append.2 (.inl (List.mem_singleton.2 rfl)))))) (by decide) i hi' hi)
    · have := hg.below HL.out (by omega)
      exact HA.out.mono (by omega) |>.trans this
    · have h1 := hg.block i (by omega) (fun p hp hpi => by have := (HLT.out p hp i hpi).2; omega)
      exact h1.trans (HA.out.block i hiw)
    · have hiw := lt_of_block hi
      have hi' := (HA.out.block i hiw).trans hi
      have h1 := hg.block i (by omega) (fun p hp hpi => by
        rcases (HL.out.1 p hp).2 with ⟨hv, _⟩ | ⟨g, cap, cur, hv, _, hg', _⟩
        · rw [hv] at hpi; simp [Value.ownBlock] at hpi
        · rw [hv] at hpi
          simp only [Value.ownBlock, Option.some.injEq] at hpi
          subst hpi
          rw [hi'] at hg'
          simp at hg'
          exact he hg'.2)
      exact h1.trans (HA.out.block i hiw)
  clear ho2 hg2
  go_wp2_with fail
  go_ret
  exact ⟨rfl, by rw [HQ.out]; exact HF.out.1, HF.out.2⟩
end Go.Proofs.Ytgolhfmmlanmlaa

/- Walks: the law that graphs with a need more are told alike, and that the answers own their memory, given contracts of both programs. -/
namespace Go.Proofs.Ytgolhfmmlanmlaa
open Go.RowKit Pth

end Go.Proofs.Ytgolhfmmlanmlaa

/- What l5Mend gathers along the stretch, as mathematics. -/
namespace Go.Proofs.Ytgolhfmmlanmlaa
open Go.RowKit Pth

theorem ahead_far {ls : List (List Int)} {l : List Int} (hg : GoodP ls l) {x y : Int} (hx : x ∈ l) (hy : y ∈ l) : aheadP ls x y = decide (0 ≤ farI ls y x) := by
  rw [Bool.eq_iff_iff, aheadP_iff, dn_up hg hx hy, up_way hg hx, decide_eq_true_iff]
theorem behind_far {ls : List (List Int)} {l : List Int} (hg : GoodP ls l) {t y : Int} (hy : y ∈ l) : behindP ls t y = decide (0 ≤ farI ls t y) := by
  rw [Bool.eq_iff_iff, behindP_iff, up_way hg hy, decide_eq_true_iff]
/-- What lies ahead, behind, and where, among the first of a stretch. -/
noncomputable def aK (ls : List (List Int)) (x : Int) (st : List Int) (k : Nat) : List Int := (st.take k).filter (aheadP ls x)
noncomputable def bK (ls : List (List Int)) (t : Int) (st : List Int) (k : Nat) : List Int := (st.take k).filter (behindP ls t)
noncomputable def pK (ls : List (List Int)) (t x : Int) (st : List Int) (lo k : Nat) : List Nat := (locK st (bothP ls t x) k).map (lo + ·)
theorem take_filter_yes {st : List Int} {p : Int → Bool} {k : Nat} (hk : k < st.length) (h : p st[k] = true) : (st.take (k + 1)).filter p = (st.take k).filter p ++ [st[k]] := by
  rw [List.take_succ_eq_append_getElem hk, List.filter_append]; simp [h]
theorem take_filter_no {st : List Int} {p : Int → Bool} {k : Nat} (hk : k < st.length) (h : p st[k] = false) : (st.take (k + 1)).filter p = (st.take k).filter p := by
  rw [List.take_succ_eq_append_getElem hk, List.filter_append]; simp [h]
theorem gather_ahead {ls : List (List Int)} {t x : Int} {st : List Int} {lo k : Nat} (hk : k < st.length) (h1 : aheadP ls x st[k] = true) (h2 : behindP ls t st[k] = false) :
    aK ls x st (k + 1) = aK ls x st k ++ [st[k]] ∧ bK ls t st (k + 1) = bK ls t st k ∧ pK ls t x st lo (k + 1) = pK ls t x st lo k ++ [lo + k] :=
  ⟨take_filter_yes hk h1, take_filter_no hk h2, by unfold pK; rw [locK_yes hk (by unfold bothP; rw [h1]; rfl), List.map_append]; rfl⟩
theorem gather_behind {ls : List (List Int)} {t x : Int} {st : List Int} {lo k : Nat} (hk : k < st.length) (h1 : aheadP ls x st[k] = false) (h2 : behindP ls t st[k] = true) :
    aK ls x st (k + 1) = aK ls x st k ∧ bK ls t st (k + 1) = bK ls t st k ++ [st[k]] ∧ pK ls t x st lo (k + 1) = pK ls t x st lo k ++ [lo + k] :=
  ⟨take_filter_no hk h1, take_filter_yes hk h2, by unfold pK; rw [locK_yes hk (by unfold bothP; rw [h1, h2]; rfl), List.map_append]; rfl⟩
theorem gather_none {ls : List (List Int)} {t x : Int} {st : List Int} {lo k : Nat} (hk : k < st.length) (h1 : aheadP ls x st[k] = false) (h2 : behindP ls t st[k] = false) :
    aK ls x st (k + 1) = aK ls x st k ∧ bK ls t st (k + 1) = bK ls t st k ∧ pK ls t x st lo (k + 1) = pK ls t x st lo k :=
  ⟨take_filter_no hk h1, take_filter_no hk h2, by unfold pK; rw [locK_no hk (by unfold bothP; rw [h1, h2]; rfl)]⟩
theorem gather_done (ls : List (List Int)) (t x : Int) (st : List Int) (lo : Nat) : aK ls x st st.length ++ bK ls t st st.length = movesL ls t x st ∧ pK ls t x st lo st.length = placesL ls t x st lo := by
  unfold aK bK pK movesL placesL
  rw [List.take_length]
  exact ⟨rfl, rfl⟩
theorem moved_self (l : List Int) : movedL l l = [] := by
  unfold movedL
  induction l with
  | nil => rfl
  | cons a r ih => rw [List.zip_cons_cons, List.filter_cons_of_neg (by simp)]; exact ih
end Go.Proofs.Ytgolhfmmlanmlaa

/- Walks: l5Mend of the reference. -/
namespace Go.Proofs.Ytgolhfmmlanmlaa
open Go.RowKit Pth

set_option maxRecDepth 20000 in
set_option maxHeartbeats 8000000 in
theorem l5Mend_no (ls : List (List Int)) (l : List Int) (t x : Nat) (B gO cO : Nat) (nv : Value) (w : World) (hst : GraphV w (.agg #[nv, .slice (some ⟨gO, 0, none⟩) l.length cO]) ls l) (hown : w.ownsRow B 3 1 (.slice (some ⟨gO, 0, none⟩) l.length cO) l.length (I l)) (hG : GoodG ls l) (ht : t < ls.length) (hx : x < ls.length) (hlt : pos l (x : Int) < pos l (t : Int)) :
    Calls Try.prog 97 #[.agg #[nv, .slice (some ⟨gO, 0, none⟩) l.length cO], .int .i64 (t : Int), .int .i64 (x : Int)] w fun e w' => ∃ u, e = .returned u ∧ w'.ownsRow w.heap.size 3 1 u (sortI (movedL l (mendO ls l t x))).length (I (sortI (movedL l (mendO ls l t x)))) ∧ w'.ownsRow B 3 1 (.slice (some ⟨gO, 0, none⟩) l.length cO) l.length (I (mendO ls l t x)) ∧ w.grownBy w' (some gO) := by
  have hmo : mendO ls l t x = l := by unfold mendO; rw [if_pos hlt]
  have hmv : sortI (movedL l (mendO ls l t x)) = [] := by rw [hmo, moved_self]; simp [sortI]
  rw [hmv, hmo]
  have HO := Lib.hid hown
  have hgp := hG.toP
  have htl : (t : Int) ∈ l := hgp.all.2 ⟨by omega, by omega⟩
  have hxl : (x : Int) ∈ l := hgp.all.2 ⟨by omega, by omega⟩
  obtain ⟨an, cn, rfl, hn1, hn2, _⟩ := hst.parts.1.lists
  unfold maxLen at hn2
  have HRO := Lib.hid (RowV.of_own hown)
  obtain ⟨wa, hwa⟩ : ∃ wa, wa = w.alloc (.cells #[.slice an ls.length cn, .slice (some ⟨gO, 0, none⟩) l.length cO] 26) := ⟨_, rfl⟩
  have P0 : Hid (Blk2 wa w.heap.size 26 (.slice an ls.length cn) (.slice (some ⟨gO, 0, none⟩) l.length cO)) := by rw [hwa]; exact Blk2.new
  have HA : Hid (Below w.heap.size w wa) := by rw [hwa]; exact (Below.refl w.heap.size w).alloc (Nat.le_refl _) _
  have HWA := Lib.hid hwa
  obtain ⟨c0, c1⟩ := P0.out.cells
  have HP1 := Lib.hid (l5Place_any l (t : Int) _ wa (HRO.out.below HA.out))
  have HP2 := Lib.hid (l5Place_any l (x : Int) _ wa (HRO.out.below HA.out))
  rw [place_mem htl] at HP1
  rw [place_mem hxl] at HP2
  generalize pos l (t : Int) = lo at *
  generalize pos l (x : Int) = hi at *
  have hgt : decide ((lo : Int) > (hi : Int)) = true := by rw [decide_eq_true_iff]; omega
  clear hwa hst hown hmo hmv
  go_enter Try.func97, Try.ntmps97
  go_wp2_with fail
  rw [← HWA.out]
  refine HP1.out.mono ?_
  rintro e w1 ⟨rfl, rfl⟩
  go_wp2_with fail
  refine HP2.out.mono ?_
  rintro e w1 ⟨rfl, rfl⟩
  go_wp2_with fail
  go_ret
  exact ⟨_, rfl, none_ownZ _ _ _, own_below HO.out HA.out, below_grown HA.out⟩


end Go.Proofs.Ytgolhfmmlanmlaa

/- What l5Mend makes of what it gathers, as mathematics; an append of one, with where it lies, as a step of the walk. -/
namespace Go.Proofs.Ytgolhfmmlanmlaa
open Go.RowKit Pth

theorem mend_parts {ls : List (List Int)} {l : List Int} (hG : GoodG ls l) {t x : Int} (ht : t ∈ l) (hx : x ∈ l) (hloop : farI ls t x < 0) {lo hi : Nat} (hlo : lo = pos l t) (hhi : hi = pos l x) (hle : lo ≤ hi) {st : List Int} (hst : st = strL l lo hi) :
    mendO ls l t x = newO l (placesL ls t x st lo) (movesL ls t x st) ∧ sortI (movedL l (mendO ls l t x)) = movK l ((placesL ls t x st lo).zip (movesL ls t x st)) ∧ (placesL ls t x st lo).length = (movesL ls t x st).length ∧ (∀ p ∈ placesL ls t x st lo, p < l.length) := by
  have hgp := hG.toP
  have hhil : hi < l.length := by rw [hhi]; exact pos_lt hx
  have h1 : mendO ls l t x = newO l (placesL ls t x st lo) (movesL ls t x st) := by unfold mendO; rw [if_neg (by omega), ← hlo, ← hhi, ← hst]
  have hsg : ∀ k (hk : k < st.length), ∃ h : lo + k < l.length, l[lo + k] = st[k] := fun k hk => by subst hst; exact strL_get hhil hle k hk
  have hsm : ∀ y ∈ st, y ∈ l := fun y hy => by
    obtain ⟨k, hk, rfl⟩ := List.getElem_of_mem hy
    obtain ⟨h, e⟩ := hsg k hk
    rw [← e]; exact List.getElem_mem h
  have hperm := moves_perm hgp ht hx hloop hsm
  have hlen : (placesL ls t x st lo).length = (movesL ls t x st).length := by unfold placesL; rw [List.length_map, hperm.length_eq, List.length_map]
  have hin : ∀ p ∈ placesL ls t x st lo, p < l.length := by
    intro p hp
    unfold placesL at hp
    obtain ⟨i, hi', rfl⟩ := List.mem_map.1 hp
    exact (hsg i (mem_locK.1 hi').1).1
  have hnod : (placesL ls t x st lo).Nodup := by
    unfold placesL
    exact List.Pairwise.map _ (fun a b h => by omega) (locK_nodup _ _ _)
  refine ⟨h1, ?_, hlen, hin⟩
  rw [h1]
  refine moved_same hG.nodup hnod hin hlen (hperm.trans (List.Perm.of_eq ?_))
  unfold placesL
  rw [List.map_map]
  refine List.map_congr_left (fun i hi' => ?_)
  obtain ⟨h, e⟩ := hsg i (mem_locK.1 hi').1
  show st.getD i 0 = l.getD (lo + i) 0
  rw [getD_in (mem_locK.1 hi').1, getD_in h, e]

theorem wpAppAt {ops : Array Oper} {rest : List Oper} {o : Oper} {a : Act} {Q : Exit → Act → World → Prop} {w : World} {x : Int} (hgd : o.guard = none) (s u : Operand)
    (ho : o.op = .call { callee := .builtin .append, args := #[s, u], argTypes := #[24, 24] }) (B : Nat) (v : Value) (m : List Int) (hs : a.eval s = v) (hown : w.ownsRow B 3 1 v m.length (I m)) (N : Nat) (hx : a.eval u = .slice (some ⟨N, 0, none⟩) 1 1) (hN : N = w.heap.size)
    (hm : m.length ≤ 1000) (hB : B ≤ w.heap.size)
    (h : ∀ v' w', w'.ownsRow B 3 1 v' (m ++ [x]).length (I (m ++ [x])) → w.grownBy w' v.ownBlock → (∀ b, v'.ownBlock = some b → v.ownBlock = some b ∨ w.heap.size ≤ b) → wpList Try.prog ops Q rest (a.put o.dst v') w') :
    wpList Try.prog ops Q (o :: rest) a (w.alloc (.cells #[.int .i64 x] 3)) := by
  subst hN
  obtain ⟨v', w', h1, h2, h3, h4⟩ := app_at m x v B w hown hm hB o.type
  exact wpList_runApp hgd s u ho hs hx h1 (h v' w' h2 h3 h4)
end Go.Proofs.Ytgolhfmmlanmlaa
