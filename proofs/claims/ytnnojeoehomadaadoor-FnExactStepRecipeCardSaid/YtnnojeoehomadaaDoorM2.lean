/- Texts of one claim, joined in their order. -/
import Derived.ProofKit
import Derived.SliceStrings
import Derived.SizedLaws
import Derived.OpenShut
import Derived.Deep.SlicePairs
import Derived.Lib.SmallJoins
import Derived.Deep.DeepHandedRow
import Derived.Deep.DeepLaidRun
import Derived.Test.YtnnojeoehomadaaDoorCards
import Derived.Test.YtnnojeoehomadaaDoorTie
import Derived.Sort.LotD3
import Derived.Sort.LotB
import Derived.Sort.LotC
import Derived.Deep.QuietTactic
import Derived.IntWalk
import Derived.Test.YtnnojeoehomadaaDoorM1

/- Plain mathematics of recipes: ops, one step, a run, what is read, digests, texts; no program. -/
namespace Go.Proofs.YtnnojeoehomadaaDoor
namespace Pth

/-- An op: its kind, its number, its text. -/
abbrev OpT := Int × Int × List UInt8

def opOk (ins : Int) (o : OpT) : Bool :=
  if o.1 = 1 then decide (0 ≤ o.2.1) && decide (o.2.1 ≤ ins - 1) && decide (o.2.2 = [])
  else if o.1 = 2 then decide (o.2.1 = 0) && decide (o.2.2.length ≤ 10)
  else if o.1 = 5 then decide (0 ≤ o.2.1) && decide (o.2.1 ≤ 40) && decide (o.2.2 = [])
  else if o.1 = 3 ∨ o.1 = 4 ∨ o.1 = 6 ∨ o.1 = 7 then decide (o.2.1 = 0) && decide (o.2.2 = [])
  else false
def goodR (r : List OpT) (ins : Int) : Bool := decide (0 ≤ ins) && decide (ins ≤ 10) && decide (r.length ≤ 8) && r.all (opOk ins)
def textsL (l : List (List UInt8)) : Bool := l.all (fun x => decide (x.length ≤ 40)) && decide (l.length ≤ 10)

theorem goodR_iff {r : List OpT} {ins : Int} : goodR r ins = true ↔ 0 ≤ ins ∧ ins ≤ 10 ∧ r.length ≤ 8 ∧ r.all (opOk ins) = true := by
  simp only [goodR, Bool.and_eq_true, decide_eq_true_eq, and_assoc]
theorem goodR_ins {r : List OpT} {ins : Int} (h : ¬ (0 ≤ ins ∧ ins ≤ 10)) : goodR r ins = false := by
  rcases hg : goodR r ins with _ | _
  · rfl
  · exact absurd ⟨(goodR_iff.1 hg).1, (goodR_iff.1 hg).2.1⟩ h
theorem goodR_long {r : List OpT} {ins : Int} (h : 8 < r.length) : goodR r ins = false := by
  rcases hg : goodR r ins with _ | _
  · rfl
  · have := (goodR_iff.1 hg).2.2.1; omega
theorem goodR_bad {r : List OpT} {ins : Int} {k : Nat} (hk : k < r.length) (h : opOk ins r[k] = false) : goodR r ins = false := by
  rcases hg : goodR r ins with _ | _
  · rfl
  · have := List.all_eq_true.1 (goodR_iff.1 hg).2.2.2 _ (List.getElem_mem hk)
    rw [h] at this; cases this
theorem goodR_end {r : List OpT} {ins : Int} {k : Nat} (h0 : 0 ≤ ins) (h1 : ins ≤ 10) (h2 : r.length ≤ 8) (hk : r.length ≤ k) (h : (r.take k).all (opOk ins) = true) : goodR r ins = true := by
  rw [List.take_of_length_le hk] at h
  exact goodR_iff.2 ⟨h0, h1, h2, h⟩
theorem all_next {α : Type} {p : α → Bool} {l : List α} {k : Nat} (hk : k < l.length) (h0 : (l.take k).all p = true) (h : p l[k] = true) : (l.take (k + 1)).all p = true := by
  rw [List.take_succ_eq_append_getElem hk, List.all_append, h0]; simp [h]
theorem all_bad {α : Type} {p : α → Bool} {l : List α} {k : Nat} (hk : k < l.length) (h : p l[k] = false) : l.all p = false := by
  rw [List.all_eq_false]; exact ⟨l[k], List.getElem_mem hk, by simp [h]⟩
theorem all_end {α : Type} {p : α → Bool} {l : List α} {k : Nat} (hk : l.length ≤ k) (h : (l.take k).all p = true) : l.all p = true := by
  rwa [List.take_of_length_le hk] at h

/-- One op's kinds. -/
theorem opOk_cat {ins n : Int} {t : List UInt8} : opOk ins (1, n, t) = (decide (0 ≤ n) && decide (n ≤ ins - 1) && decide (t = [])) := by simp [opOk]
theorem opOk_text {ins n : Int} {t : List UInt8} : opOk ins (2, n, t) = (decide (n = 0) && decide (t.length ≤ 10)) := by simp [opOk]
theorem opOk_drop {ins n : Int} {t : List UInt8} : opOk ins (5, n, t) = (decide (0 ≤ n) && decide (n ≤ 40) && decide (t = [])) := by simp [opOk]
theorem opOk_bare {ins k n : Int} {t : List UInt8} (hk : k = 3 ∨ k = 4 ∨ k = 6 ∨ k = 7) : opOk ins (k, n, t) = (decide (n = 0) && decide (t = [])) := by
  rcases hk with rfl | rfl | rfl | rfl <;> simp [opOk]
theorem opOk_none {ins k n : Int} {t : List UInt8} (h1 : k ≠ 1) (h2 : k ≠ 2) (h3 : k ≠ 3) (h4 : k ≠ 4) (h5 : k ≠ 5) (h6 : k ≠ 6) (h7 : k ≠ 7) : opOk ins (k, n, t) = false := by
  simp [opOk, h1, h2, h3, h4, h5, h6, h7]
/-- What a good op is. -/
theorem opOk_cases {ins : Int} {o : OpT} (h : opOk ins o = true) :
    (∃ n : Nat, o = (1, (n : Int), []) ∧ (n : Int) ≤ ins - 1) ∨ (∃ t : List UInt8, o = (2, 0, t) ∧ t.length ≤ 10) ∨ o = (3, 0, []) ∨ o = (4, 0, []) ∨ (∃ n : Nat, o = (5, (n : Int), []) ∧ n ≤ 40) ∨ o = (6, 0, []) ∨ o = (7, 0, []) := by
  obtain ⟨k, n, t⟩ := o
  by_cases h1 : k = 1
  · subst h1
    simp only [opOk_cat, Bool.and_eq_true, decide_eq_true_eq] at h
    obtain ⟨⟨ha, hb⟩, rfl⟩ := h
    exact .inl ⟨n.toNat, by rw [show (n.toNat : Int) = n by omega], by omega⟩
  by_cases h2 : k = 2
  · subst h2
    simp only [opOk_text, Bool.and_eq_true, decide_eq_true_eq] at h
    obtain ⟨rfl, hb⟩ := h
    exact .inr (.inl ⟨t, rfl, hb⟩)
  by_cases h5 : k = 5
  · subst h5
    simp only [opOk_drop, Bool.and_eq_true, decide_eq_true_eq] at h
    obtain ⟨⟨ha, hb⟩, rfl⟩ := h
    exact .inr (.inr (.inr (.inr (.inl ⟨n.toNat, by rw [show (n.toNat : Int) = n by omega], by omega⟩))))
  by_cases h3 : k = 3 ∨ k = 4 ∨ k = 6 ∨ k = 7
  · rw [opOk_bare h3] at h
    simp only [Bool.and_eq_true, decide_eq_true_eq] at h
    obtain ⟨rfl, rfl⟩ := h
    rcases h3 with rfl | rfl | rfl | rfl <;> simp
  · have h3' : k ≠ 3 ∧ k ≠ 4 ∧ k ≠ 6 ∧ k ≠ 7 := by omega
    rw [opOk_none h1 h2 h3'.1 h3'.2.1 h5 h3'.2.2.1 h3'.2.2.2] at h
    cases h

def upB (c : UInt8) : UInt8 := if 97 ≤ c.toNat ∧ c.toNat ≤ 122 then c - 32 else c
def upT (l : List UInt8) : List UInt8 := l.map upB
def sortT (l : List UInt8) : List UInt8 := l.mergeSort (fun a b => decide (a ≤ b))
def Sorted8 (l : List UInt8) : Prop := l.Pairwise (· ≤ ·)
theorem sortT_perm (l : List UInt8) : (sortT l).Perm l := List.mergeSort_perm _ _
theorem le8_total (a b : UInt8) : a ≤ b ∨ b ≤ a := by
  simp only [UInt8.le_iff_toNat_le]; omega
theorem le8_trans {a b c : UInt8} (h : a ≤ b) (k : b ≤ c) : a ≤ c := by
  simp only [UInt8.le_iff_toNat_le] at *; omega
theorem sortT_sorted (l : List UInt8) : Sorted8 (sortT l) := by
  have := List.pairwise_mergeSort (le := fun a b : UInt8 => decide (a ≤ b)) (fun a b c h1 h2 => by simp only [decide_eq_true_eq] at *; exact le8_trans h1 h2) (fun a b => by simpa using le8_total a b) l
  exact this.imp (fun h => by simpa using h)
theorem sort_unique {a b : List UInt8} (hp : a.Perm b) (ha : Sorted8 a) (hb : Sorted8 b) : a = b :=
  hp.eq_of_pairwise (le := fun a b : UInt8 => a ≤ b) (fun a b _ _ h1 h2 => by
    apply UInt8.toNat.inj
    simp only [UInt8.le_iff_toNat_le] at h1 h2
    omega) ha hb
theorem sortT_is {a l : List UInt8} (hp : a.Perm l) (ha : Sorted8 a) : a = sortT l := sort_unique (hp.trans (sortT_perm l).symm) ha (sortT_sorted l)
theorem sortT_len (l : List UInt8) : (sortT l).length = l.length := (sortT_perm l).length_eq
theorem upT_len (l : List UInt8) : (upT l).length = l.length := by simp [upT]

def digB (n : Nat) : UInt8 := UInt8.ofNat (48 + n)
/-- A number below 100 as text. -/
def numT (n : Nat) : List UInt8 := if n < 10 then [digB n] else [digB (n / 10), digB (n % 10)]
theorem numT_len (n : Nat) : (numT n).length ≤ 2 := by unfold numT; split <;> simp

/-- What an op makes of a text, however long that is; none where it fails. -/
def rawT (o : OpT) (ins : List (List UInt8)) (acc : List UInt8) : Option (List UInt8) :=
  if o.1 = 1 then some (acc ++ (ins[o.2.1.toNat]?).getD [])
  else if o.1 = 2 then some (acc ++ o.2.2)
  else if o.1 = 3 then some (upT acc)
  else if o.1 = 4 then some (sortT acc)
  else if o.1 = 5 then some (acc.drop o.2.1.toNat)
  else if o.1 = 6 then some (numT acc.length)
  else none
def capT (x : List UInt8) : Option (List UInt8) := if x.length ≤ 40 then some x else none
def stepT (o : OpT) (ins : List (List UInt8)) (acc : List UInt8) : Option (List UInt8) := (rawT o ins acc).bind capT
def runT (ins : List (List UInt8)) : List OpT → List UInt8 → Option (List UInt8)
  | [], acc => some acc
  | o :: t, acc => (stepT o ins acc).bind (runT ins t)
theorem capT_some {x y : List UInt8} (h : capT x = some y) : y = x ∧ x.length ≤ 40 := by
  unfold capT at h
  split at h
  · simp only [Option.some.injEq] at h; exact ⟨h.symm, by assumption⟩
  · cases h
theorem stepT_len {o : OpT} {ins : List (List UInt8)} {acc y : List UInt8} (h : stepT o ins acc = some y) : y.length ≤ 40 := by
  unfold stepT at h
  rcases hr : rawT o ins acc with _ | x
  · rw [hr] at h; cases h
  · rw [hr] at h
    obtain ⟨rfl, hl⟩ := capT_some h
    exact hl
theorem run_step {ins : List (List UInt8)} {r : List OpT} {k : Nat} (hk : k < r.length) (acc : List UInt8) : runT ins (r.drop k) acc = (stepT r[k] ins acc).bind (runT ins (r.drop (k + 1))) := by
  rw [List.drop_eq_getElem_cons hk]; rfl
theorem runT_len {ins : List (List UInt8)} {r : List OpT} {acc y : List UInt8} (ha : acc.length ≤ 40) (h : runT ins r acc = some y) : y.length ≤ 40 := by
  induction r generalizing acc with
  | nil => simp only [runT, Option.some.injEq] at h; subst h; exact ha
  | cons o t ih =>
    simp only [runT] at h
    rcases hs : stepT o ins acc with _ | x
    · rw [hs] at h; cases h
    · rw [hs] at h
      exact ih (stepT_len hs) h
/-- The text behind, empty where it failed. -/
def txtO (x : Option (List UInt8)) : List UInt8 := x.getD []

/-- StepRecipe, RunRecipe: as told. -/
def stepOk (o : OpT) (ins : List (List UInt8)) (acc : List UInt8) : Bool := textsL ins && opOk ins.length o && decide (acc.length ≤ 40)
def runOk (r : List OpT) (ins : List (List UInt8)) : Bool := textsL ins && goodR r ins.length
def stepA (o : OpT) (ins : List (List UInt8)) (acc : List UInt8) : Option (List UInt8) := if stepOk o ins acc then stepT o ins acc else none
def runA (r : List OpT) (ins : List (List UInt8)) : Option (List UInt8) := if runOk r ins then runT ins r [] else none

/-- What is read. -/
def read1 (out : List Int) (o : OpT) : List Int := if o.1 = 1 then putL out o.2.1 else out
def readsL (r : List OpT) : List Int := r.foldl read1 []
def readsA (r : List OpT) : List Int := if goodR r 10 then readsL r else []
def catsL (r : List OpT) : List Int := r.filterMap (fun o => if o.1 = 1 then some o.2.1 else none)
theorem reads_fold_rise (r : List OpT) {out : List Int} (h : Rise out) : Rise (r.foldl read1 out) := by
  induction r generalizing out with
  | nil => exact h
  | cons o t ih =>
    refine ih ?_
    unfold read1
    split
    · exact put_rise h
    · exact h
theorem reads_rise (r : List OpT) : Rise (readsL r) := reads_fold_rise r .nil
theorem reads_fold_mem (r : List OpT) {out : List Int} {x : Int} : x ∈ r.foldl read1 out ↔ x ∈ out ∨ x ∈ catsL r := by
  induction r generalizing out with
  | nil => simp [catsL]
  | cons o t ih =>
    rw [List.foldl_cons, ih]
    unfold read1 catsL
    by_cases h : o.1 = 1
    · simp only [if_pos h, mem_put, List.filterMap_cons, List.mem_cons]
      constructor
      · rintro ((h | h) | h)
        · exact .inr (.inl h)
        · exact .inl h
        · exact .inr (.inr h)
      · rintro (h | (h | h))
        · exact .inl (.inr h)
        · exact .inl (.inl h)
        · exact .inr h
    · simp only [if_neg h, List.filterMap_cons]
theorem mem_reads {r : List OpT} {x : Int} : x ∈ readsL r ↔ x ∈ catsL r := by
  rw [readsL, reads_fold_mem]; simp
theorem reads_is {r : List OpT} {l : List Int} (hr : Rise l) (h : ∀ x, x ∈ l ↔ x ∈ catsL r) : l = readsL r :=
  rise_ext hr (reads_rise r) (fun x => (h x).trans mem_reads.symm)
theorem reads_next {r : List OpT} {k : Nat} (hk : k < r.length) : (r.take (k + 1)).foldl read1 [] = read1 ((r.take k).foldl read1 []) r[k] := by
  rw [List.take_succ_eq_append_getElem hk, List.foldl_append]; rfl
theorem cats_next {r : List OpT} {k : Nat} (hk : k < r.length) : catsL (r.take (k + 1)) = catsL (r.take k) ++ (if r[k].1 = 1 then [r[k].2.1] else []) := by
  rw [List.take_succ_eq_append_getElem hk]
  unfold catsL
  rw [List.filterMap_append]
  by_cases h : r[k].1 = 1 <;> simp [h]
theorem cats_len (r : List OpT) : (catsL r).length ≤ r.length := List.length_filterMap_le _ _

/-- Digests. -/
def dig1 (d : Int) (c : UInt8) : Int := (31 * d + (c.toNat : Int)) % 1000003
def digL (s : List UInt8) : Int := s.foldl dig1 7
def digA (s : List UInt8) : Int := if s.length ≤ 100 then digL s else 0
theorem dig_bound (s : List UInt8) : 0 ≤ digL s ∧ digL s < 1000003 := by
  have : ∀ (l : List UInt8) (d : Int), 0 ≤ d ∧ d < 1000003 → 0 ≤ l.foldl dig1 d ∧ l.foldl dig1 d < 1000003 := by
    intro l
    induction l with
    | nil => exact fun d h => h
    | cons c t ih => exact fun d _ => ih _ (by unfold dig1; omega)
  exact this s 7 (by omega)
theorem dig_next {s : List UInt8} {k : Nat} (hk : k < s.length) : digL (s.take (k + 1)) = (31 * digL (s.take k) + (s[k].toNat : Int)) % 1000003 := by
  rw [digL, List.take_succ_eq_append_getElem hk, List.foldl_append]; rfl

/-- A recipe as text. -/
def byteI (x : Int) : UInt8 := UInt8.ofNat x.toNat
def text1 (o : OpT) : List UInt8 := [byteI o.1, byteI o.2.1, byteI (o.2.2.length : Int)] ++ o.2.2
def textR (r : List OpT) : List UInt8 := r.flatMap text1
def textA (r : List OpT) : List UInt8 := if goodR r 10 then textR r else []
theorem text_next {r : List OpT} {k : Nat} (hk : k < r.length) : textR (r.take (k + 1)) = textR (r.take k) ++ text1 r[k] := by
  rw [textR, List.take_succ_eq_append_getElem hk, List.flatMap_append]; simp [textR]
theorem byteI_inj {x y : Int} (hx : 0 ≤ x ∧ x ≤ 255) (hy : 0 ≤ y ∧ y ≤ 255) (h : byteI x = byteI y) : x = y := by
  have := congrArg UInt8.toNat h
  simp only [byteI, UInt8.toNat_ofNat'] at this
  omega
def Small1 (o : OpT) : Prop := (1 ≤ o.1 ∧ o.1 ≤ 7) ∧ (0 ≤ o.2.1 ∧ o.2.1 ≤ 40) ∧ o.2.2.length ≤ 10
theorem small_of {ins : Int} {o : OpT} (hi : ins ≤ 10) (h : opOk ins o = true) : Small1 o := by
  unfold Small1
  rcases opOk_cases h with ⟨n, rfl, hn⟩ | ⟨t, rfl, ht⟩ | rfl | rfl | ⟨n, rfl, hn⟩ | rfl | rfl <;> simp <;> omega
theorem text1_inj {a b : OpT} {x y : List UInt8} (ha : Small1 a) (hb : Small1 b) (h : text1 a ++ x = text1 b ++ y) : a = b ∧ x = y := by
  obtain ⟨k, n, t⟩ := a
  obtain ⟨k', n', t'⟩ := b
  simp only [Small1] at ha hb
  simp only [text1, List.cons_append, List.nil_append, List.cons.injEq, List.append_assoc] at h
  obtain ⟨h1, h2, h3, h4⟩ := h
  have e1 := byteI_inj (by omega) (by omega) h1
  have e2 := byteI_inj (by omega) (by omega) h2
  have e3 : t.length = t'.length := by have := byteI_inj (by omega) (by omega) h3; omega
  obtain ⟨e4, e5⟩ := List.append_inj h4 e3
  exact ⟨by rw [e1, e2, e4], e5⟩
theorem textR_inj : ∀ {r q : List OpT}, (∀ o ∈ r, Small1 o) → (∀ o ∈ q, Small1 o) → textR r = textR q → r = q
  | [], [], _, _, _ => rfl
  | [], b :: q, _, _, h => by simp [textR, text1] at h
  | a :: r, [], _, _, h => by simp [textR, text1] at h
  | a :: r, b :: q, hr, hq, h => by
    simp only [textR, List.flatMap_cons] at h
    obtain ⟨e1, e2⟩ := text1_inj (hr a (by simp)) (hq b (by simp)) h
    have := textR_inj (r := r) (q := q) (fun o ho => hr o (by simp [ho])) (fun o ho => hq o (by simp [ho])) e2
    rw [e1, this]
theorem good_small {r : List OpT} {ins : Int} (h : goodR r ins = true) : ∀ o ∈ r, Small1 o := fun o ho =>
  small_of (goodR_iff.1 h).2.1 (List.all_eq_true.1 (goodR_iff.1 h).2.2.2 o ho)
theorem text_same {r q : List OpT} (hr : goodR r 10 = true) (hq : goodR q 10 = true) : decide (r = q) = decide (textA q = textA r) := by
  rw [textA, textA, if_pos hr, if_pos hq]
  by_cases h : r = q
  · subst h; simp
  · rw [decide_eq_false h, decide_eq_false]
    exact fun e => h (textR_inj (good_small hr) (good_small hq) e.symm)
theorem text1_len {o : OpT} (h : Small1 o) : (text1 o).length ≤ 13 := by
  simp [text1]; exact h.2.2
theorem textR_len {r : List OpT} (h : ∀ o ∈ r, Small1 o) : (textR r).length ≤ 13 * r.length := by
  induction r with
  | nil => simp [textR]
  | cons o t ih =>
    have h1 := text1_len (h o (by simp))
    have h2 := ih (fun o ho => h o (by simp [ho]))
    simp only [textR, List.flatMap_cons, List.length_append, List.length_cons] at h2 ⊢
    omega

/-- What two lists have alike for a recipe. -/
def sameL (r : List OpT) (a b : List (List UInt8)) : Bool := r.all (fun o => decide (o.1 = 1 → (a[o.2.1.toNat]?).getD [] = (b[o.2.1.toNat]?).getD []))
theorem raw_same {o : OpT} {a b : List (List UInt8)} (h : o.1 = 1 → (a[o.2.1.toNat]?).getD [] = (b[o.2.1.toNat]?).getD []) (acc : List UInt8) : rawT o a acc = rawT o b acc := by
  unfold rawT
  by_cases h1 : o.1 = 1
  · rw [if_pos h1, if_pos h1, h h1]
  · rw [if_neg h1, if_neg h1]
theorem run_same {r : List OpT} {a b : List (List UInt8)} (h : sameL r a b = true) (acc : List UInt8) : runT a r acc = runT b r acc := by
  induction r generalizing acc with
  | nil => rfl
  | cons o t ih =>
    simp only [sameL, List.all_cons, Bool.and_eq_true, decide_eq_true_eq] at h
    simp only [runT, stepT, raw_same h.1]
    exact congrArg _ (funext fun x => ih h.2 x)

end Pth
end Go.Proofs.YtnnojeoehomadaaDoor

/- Ops as cells; lists of ops, wherever they lie. -/
namespace Go.Proofs.YtnnojeoehomadaaDoor
open Go.RowKit Pth

def opC (o : OpT) : List Value := [.int .i64 o.1, .int .i64 o.2.1, .string ⟨o.2.2.toArray⟩]
def opV (o : OpT) : Value := .agg #[.int .i64 o.1, .int .i64 o.2.1, .string ⟨o.2.2.toArray⟩]
def OC (l : List OpT) : List Value := l.flatMap opC
theorem OC_cons (f : OpT) (l : List OpT) : OC (f :: l) = .int .i64 f.1 :: .int .i64 f.2.1 :: .string ⟨f.2.2.toArray⟩ :: OC l := rfl
theorem OC_len (l : List OpT) : (OC l).length = l.length * 3 := by
  induction l with
  | nil => rfl
  | cons f t ih => rw [OC_cons]; simp only [List.length_cons]; omega
theorem OC_append (a b : List OpT) : OC (a ++ b) = OC a ++ OC b := by simp [OC]
theorem OC_one (l : List OpT) : ∀ u ∈ OC l, u.oneCell' = true := by
  intro u hu
  simp only [OC, List.mem_flatMap, opC, List.mem_cons, List.not_mem_nil, or_false] at hu
  obtain ⟨f, _, h | h | h⟩ := hu <;> (rw [h]; rfl)
theorem OC_drop (l : List OpT) (k : Nat) : (OC l).drop (k * 3) = OC (l.drop k) := by
  by_cases hk : k ≤ l.length
  · have e : OC l = OC (l.take k) ++ OC (l.drop k) := by rw [← OC_append, List.take_append_drop]
    have hl : (OC (l.take k)).length = k * 3 := by rw [OC_len, List.length_take]; omega
    rw [e, ← hl, List.drop_left]
  · rw [List.drop_of_length_le (by rw [OC_len]; omega), List.drop_of_length_le (by omega)]; rfl
theorem OC_at {l : List OpT} {k : Nat} (hk : k < l.length) :
    (OC l)[k * 3]? = some (.int .i64 l[k].1) ∧ (OC l)[k * 3 + 1]? = some (.int .i64 l[k].2.1) ∧ (OC l)[k * 3 + 2]? = some (.string ⟨(l[k]).2.2.toArray⟩) := by
  have h1 : (OC l).drop (k * 3) = OC (l.drop k) := OC_drop l k
  rw [List.drop_eq_getElem_cons hk] at h1
  have g : ∀ j : Nat, ((OC l).drop (k * 3))[j]? = (OC (l[k] :: l.drop (k + 1)))[j]? := fun j => by rw [h1]
  refine ⟨?_, ?_, ?_⟩
  · have := g 0; rw [List.getElem?_drop] at this; exact this
  · have := g 1; rw [List.getElem?_drop] at this; exact this
  · have := g 2; rw [List.getElem?_drop] at this; exact this

/-- A slice that reads as ops. -/
def RowO (w : World) (v : Value) (l : List OpT) : Prop := RowG 3 w v l.length (OC l)
theorem RowO.ops {w : World} {v : Value} {l : List OpT} (h : RowO w v l) :
    ∃ a c, v = .slice a l.length c ∧ l.length ≤ c ∧ c ≤ maxLen ∧ ∀ k (hk : k < l.length), ∃ g o, a = some ⟨g, o, none⟩ ∧ g < w.heap.size ∧ w.cell? ⟨g, o + k * 3, none⟩ = some (.int .i64 l[k].1) ∧ w.cell? ⟨g, o + k * 3 + 1, none⟩ = some (.int .i64 l[k].2.1) ∧ w.cell? ⟨g, o + k * 3 + 2, none⟩ = some (.string ⟨(l[k]).2.2.toArray⟩) := by
  obtain ⟨a, c, hv, h0, h1, h2, hat⟩ := h
  refine ⟨a, c, hv, h1, h2, fun k hk => ?_⟩
  obtain ⟨q0, q1, q2⟩ := OC_at hk
  obtain ⟨g, o, ha, hg, hc⟩ := hat (k * 3) (by rw [OC_len]; omega)
  obtain ⟨g', o', ha', _, hc'⟩ := hat (k * 3 + 1) (by rw [OC_len]; omega)
  obtain ⟨g'', o'', ha'', _, hc''⟩ := hat (k * 3 + 2) (by rw [OC_len]; omega)
  rw [ha] at ha' ha''
  obtain ⟨rfl, rfl⟩ := addr_inj ha'
  obtain ⟨rfl, rfl⟩ := addr_inj ha''
  rw [List.getElem?_eq_getElem (by rw [OC_len]; omega)] at q0 q1 q2
  refine ⟨g, o, ha, hg, hc.trans q0, ?_, ?_⟩
  · rw [Nat.add_assoc]; exact hc'.trans q1
  · rw [Nat.add_assoc]; exact hc''.trans q2
theorem RowO.of_own {w : World} {B e : Nat} {v : Value} {l : List OpT} (h : w.ownsRow B e 3 v l.length (OC l)) : RowO w v l := RowG.of_own h
theorem RowO.below {w w' : World} {v : Value} {l : List OpT} (h : RowO w v l) (hb : Below w.heap.size w w') : RowO w' v l := RowG.below h hb

theorem elemO : ElemG 23 30 (.agg #[.int .i64 0, .int .i64 0, .string ByteArray.empty]) 3 32 := ⟨Tryd.underlying23, by kernel_rfl, rfl, by decide, by decide⟩

end Go.Proofs.YtnnojeoehomadaaDoor

/- What the rows of chapter 4 share: how lists of ops and single ops that came in read. -/
namespace Go.Proofs.YtnnojeoehomadaaDoor
open Go.ChangeShapes Go.WideShapes Go.ChangeAt Go.RowKit Pth

theorem own : ownKnob Tryd.prog.godebug = none := by kernel_rfl
theorem laidOut : laidOutB Tryd.prog = true := by kernel_rfl
theorem met_none (w : World) : laidMet Tryd.prog [] w := ⟨[], rfl, List.nodup_nil, fun _ _ h => by cases h⟩

/-- A struct of three fields, a cell each. -/
theorem three_cells {H : Type} {enc : TypeId × Value → H} {P : Program} {w : World} {base : Nat} {spare : Nat → Bool} {held : Bool} {t : TypeId} {f0 f1 f2 : Field} {n : Nat} {cs : List Value} {x : DataW H × List MemPlace}
    (he : P.underlying t = some (.struct #[f0, f1, f2])) (o0 : f0.offset = 0) (o1 : f1.offset = 1) (o2 : f2.offset = 2) (c0 : P.cellsOf f0.type = 1) (c1 : P.cellsOf f1.type = 1) (c2 : P.cellsOf f2.type = 1)
    (h : DataW.trod enc P w base spare held n t cs = some x) (hl : cs.length = 3) :
    ∃ (v0 v1 v2 : Value) (y0 y1 y2 : DataW H × List MemPlace) (k : Nat), cs = [v0, v1, v2] ∧ DataW.trod enc P w base spare held k f0.type [v0] = some y0 ∧ DataW.trod enc P w base spare held k f1.type [v1] = some y1 ∧ DataW.trod enc P w base spare held k f2.type [v2] = some y2 := by
  obtain ⟨xs, k, hk, hxy, _, hxl, hf⟩ := DataW.trod_struct he h
  match xs, hxl, cs, hl with
  | [y0, y1, y2], _, [v0, v1, v2], _ =>
    have g0 := hf 0 f0 rfl
    have g1 := hf 1 f1 rfl
    have g2 := hf 2 f2 rfl
    simp [o0, o1, o2, c0, c1, c2] at g0 g1 g2
    exact ⟨v0, v1, v2, y0, y1, y2, k, rfl, g0, g1, g2⟩

/-- A list of ops that came in. -/
theorem ops_in {H : Type} {enc : TypeId × Value → H} {W : World} {v : Value} {d : DataW H} {p : List MemPlace}
    (h : DataW.Trod enc Tryd.prog W 0 (fun _ => true) true 38 v d p) (hv : ∃ a len cap, v = .slice a len cap) : ∃ l : List OpT, RowO W v l ∧ ∀ f ∈ l, f.2.2.length ≤ maxLen := by
  obtain ⟨fuel, hf⟩ := h
  obtain ⟨a', len', cap', rfl⟩ := hv
  rcases Deep.open_slice Tryd.underlying38 hf with ⟨hcs, _⟩ | ⟨a, len, cap, m, n, D, Pl, hcs, hb, hl, hm, hmm, _, hx⟩
  · simp [Value.cells] at hcs
    obtain ⟨rfl, rfl, rfl⟩ := hcs
    exact ⟨[], ⟨none, 0, rfl, rfl, Nat.le_refl _, by unfold maxLen; omega, fun k hk => absurd hk (by simp [OC])⟩, fun f hf => by simp at hf⟩
  · simp [Value.cells] at hcs
    obtain ⟨rfl, rfl, rfl⟩ := hcs
    simp only [if_true] at hmm
    have each : ∀ i, i < m → ∃ q : OpT, W.cell? ((a.add (i * 3)).add 0) = some (.int .i64 q.1) ∧ W.cell? ((a.add (i * 3)).add 1) = some (.int .i64 q.2.1) ∧ W.cell? ((a.add (i * 3)).add 2) = some (.string ⟨q.2.2.toArray⟩) ∧ q.2.2.length ≤ maxLen := by
      intro i hi
      obtain ⟨cs', h1, h2⟩ := hx i hi
      rw [show Tryd.prog.cellsOf 46 = 3 by kernel_rfl] at h1
      obtain ⟨_, hlen, hcell⟩ := World.cells?_some h1
      obtain ⟨v0, v1, v2, y0, y1, y2, k, rfl, g0, g1, g2⟩ := three_cells Tryd.underlying46 rfl rfl rfl (by kernel_rfl) (by kernel_rfl) (by kernel_rfl) h2 hlen
      obtain ⟨n0, e0, _, _⟩ := DataW.trod_int Tryd.underlying3 g0
      obtain ⟨n1, e1, _, _⟩ := DataW.trod_int Tryd.underlying3 g1
      obtain ⟨s2, e2, _, z2⟩ := DataW.trod_string Tryd.underlying9 g2
      simp at e0 e1 e2
      subst e0 e1 e2
      have q0 := hcell 0 (by omega)
      have q1 := hcell 1 (by omega)
      have q2 := hcell 2 (by omega)
      exact ⟨(n0, n1, s2.data.toList), by simpa using q0, by simpa using q1, by simpa using q2, by show s2.data.toList.length ≤ _; rw [Array.length_toList]; exact z2⟩
    obtain ⟨q, hq⟩ := Deep.choose_lt each
    have hlen : ((List.range len').map q).length = len' := by simp
    refine ⟨(List.range len').map q, ⟨some a, cap', by rw [hlen], by rw [OC_len], by rw [hlen]; exact hl, hm, fun k hk => ?_⟩, fun f hf => ?_⟩
    · rw [OC_len, hlen] at hk
      obtain ⟨b, off, spot⟩ := a
      have h0 := (hq 0 (by omega)).1
      have hspot : spot = none := by simpa [Addr.add] using World.cell?_spot h0
      subst hspot
      have hi : k / 3 < len' := by omega
      have hqi := hq (k / 3) (by omega)
      have hget : ((List.range len').map q)[k / 3]'(by rw [hlen]; exact hi) = q (k / 3) := by simp
      rw [add_addr, add_addr, add_addr, add_addr] at hqi
      refine ⟨b, off, rfl, World.block_lt_of_cell? _ _ hqi.1, ?_⟩
      have hat := OC_at (l := (List.range len').map q) (k := k / 3) (by rw [hlen]; exact hi)
      rw [hget] at hat
      have hm3 : k % 3 = 0 ∨ k % 3 = 1 ∨ k % 3 = 2 := by omega
      have hkl : k < (OC ((List.range len').map q)).length := by rw [OC_len, hlen]; exact hk
      have hgk : (OC ((List.range len').map q))[k]? = some (OC ((List.range len').map q))[k] := List.getElem?_eq_getElem hkl
      rw [← hgk]
      rcases hm3 with e | e | e
      · have ek : k = k / 3 * 3 := by omega
        have h1 := hat.1
        rw [← ek] at h1
        rw [h1, ← hqi.1]
        congr 2
        omega
      · have ek : k = k / 3 * 3 + 1 := by omega
        have h1 := hat.2.1
        rw [← ek] at h1
        rw [h1, ← hqi.2.1]
        congr 2
        omega
      · have ek : k = k / 3 * 3 + 2 := by omega
        have h1 := hat.2.2
        rw [← ek] at h1
        rw [h1, ← hqi.2.2.1]
        congr 2
        omega
    · simp only [List.mem_map, List.mem_range] at hf
      obtain ⟨i, hi, rfl⟩ := hf
      exact (hq i (by omega)).2.2.2

end Go.Proofs.YtnnojeoehomadaaDoor

/- What the rows of chapter 4 with listed tables share: how texts and single ops that came in read; a world in which the listed tables lie, for the witness. -/
namespace Go.Proofs.YtnnojeoehomadaaDoor
open Go.ChangeShapes Go.WideShapes Go.ChangeAt Go.RowKit Pth

/-- The cells of a table as the row lists it. -/
def litCell {H : Type} : DataW H → Value
  | .lit (.int k n) => .int k n
  | _ => .int .u8 0
def tabCells {H : Type} : DataW H → Array Value
  | .agg l => (l.map litCell).toArray
  | _ => #[]
def refill (cs : Array Value) : Obj → Obj
  | .cells _ t fr => .cells cs t fr
  | o => o
/-- The settled world with the three tables laid. -/
noncomputable def laidWorld (os : Os) : World :=
  { World.holding Tryd.prog os ⟨#[], #[], []⟩ with heap := (((World.holding Tryd.prog os ⟨#[], #[], []⟩).heap.modify 1 (refill (tabCells (H := Unit) Rows.laid_math_bits_deBruijn32tab))).modify 2 (refill (tabCells (H := Unit) Rows.laid_math_bits_deBruijn64tab))).modify 0 (refill (tabCells (H := Unit) Rows.laid_internal_strconv_uint64pow10)) }

/-- A slice of texts that came in. -/
theorem texts_in {H : Type} {enc : TypeId × Value → H} {W : World} {a : Option Addr} {len cap : Nat} {d : DataW H} {p : List MemPlace}
    (h : DataW.Trod enc Tryd.prog W 0 (fun _ => true) true 24 (.slice a len cap) d p) : ∃ l : List (List UInt8), RowV W (.slice a len cap) (S l) ∧ ∀ x ∈ l, x.length ≤ maxLen := by
  obtain ⟨fuel, hf⟩ := h
  rcases open_strings Tryd.underlying24 Tryd.underlying9 (by kernel_rfl) hf with ⟨hcs, _⟩ | ⟨x, l, c, ss, hcs, _, hl, hm, hz, hx, hcell, hws⟩
  · simp [Value.cells] at hcs
    obtain ⟨rfl, rfl, rfl⟩ := hcs
    exact ⟨[], ⟨none, 0, rfl, Nat.le_refl _, by unfold maxLen; omega, fun k hk => absurd hk (by simp [S])⟩, fun x hx => by simp at hx⟩
  · simp [Value.cells] at hcs
    obtain ⟨rfl, rfl, rfl⟩ := hcs
    simp only [if_true] at hz
    have hlen : ((ss.take len).map (·.data.toList)).length = len := by rw [List.length_map, List.length_take]; omega
    refine ⟨(ss.take len).map (·.data.toList), ⟨some x, cap, by rw [S_len, hlen], by rw [S_len, hlen]; omega, by omega, fun k hk => ?_⟩, fun y hy => ?_⟩
    · rw [S_len, hlen] at hk
      have hc := hcell k (by omega)
      have h0 := hcell 0 (by omega)
      obtain ⟨b, off, spot⟩ := x
      have hspot : spot = none := by simpa [Addr.add] using World.cell?_spot h0
      subst hspot
      rw [add_addr] at hc
      refine ⟨b, off, rfl, World.block_lt_of_cell? _ _ hc, ?_⟩
      rw [hc]
      simp only [S, List.getElem_map, List.getElem_take]
      rw [List.getD_eq_getElem?_getD, List.getElem?_eq_getElem (by omega)]
      rfl
    · simp only [List.mem_map] at hy
      obtain ⟨z, hz1, rfl⟩ := hy
      have := hws z (List.mem_of_mem_take hz1)
      show z.data.toList.length ≤ maxLen
      rw [Array.length_toList]
      exact this
set_option maxRecDepth 100000 in
/-- An op that came in. -/
theorem op_in {H : Type} {enc : TypeId × Value → H} {W : World} {base : Nat} {v : Value} {d : DataW H} {p : List MemPlace} (hv : Value.okWide Tryd.prog W .any base 46 v)
    (h : DataW.Trod enc Tryd.prog W 0 (fun _ => true) true 46 v d p) : ∃ q : OpT, v = opV q ∧ q.2.2.length ≤ maxLen := by
  obtain ⟨v0, v1, v2, y0, y1, y2, n, rfl, _, _, h0, h1, h2⟩ := Joins.open_agg3 Tryd.underlying46 (by kernel_rfl) (by kernel_rfl) hv h
  obtain ⟨n0, e0, _, _⟩ := DataW.trod_int Tryd.underlying3 h0
  obtain ⟨n1, e1, _, _⟩ := DataW.trod_int Tryd.underlying3 h1
  obtain ⟨s2, e2, _, z2⟩ := DataW.trod_string Tryd.underlying9 h2
  simp at e0 e1 e2
  subst e0 e1 e2
  exact ⟨(n0, n1, s2.data.toList), rfl, by show s2.data.toList.length ≤ _; rw [Array.length_toList]; exact z2⟩
end Go.Proofs.YtnnojeoehomadaaDoor

/- Bytes in a block of the call's own: read, written, changed about. -/
namespace Go.Proofs.YtnnojeoehomadaaDoor
open Go.RowKit Pth

def enc8 (x : UInt8) : Value := .int .u8 (x.toNat : Int)
def ltB (x y : UInt8) : Bool := decide (x.toNat < y.toNat)
/-- The block g holds these bytes, and tl behind them. -/
def SB (g : Nat) (tl : List Value) (d : Array UInt8) (w : World) : Prop := w.heap[g]? = some (.cells (d.toList.map enc8 ++ tl).toArray 5 (d.size + tl.length, d.size + tl.length + 1))
theorem SB.cell {g : Nat} {tl : List Value} {d : Array UInt8} {w : World} (h : SB g tl d w) {i : Nat} (hi : i < d.size) : w.cell? ⟨g, i, none⟩ = some (.int .u8 (d[i]!.toNat : Int)) := by
  unfold SB at h
  rw [Lib.cell_of_heap h, List.getElem?_toArray, List.getElem?_append_left (by simpa using hi)]
  simp [hi, enc8]
theorem SB.frozen {g : Nat} {tl : List Value} {d : Array UInt8} {w : World} (h : SB g tl d w) (i : Nat) (hi : i < d.size) : w.frozen? ⟨g, i, none⟩ = false := by
  unfold SB at h
  simp only [World.frozen?, h, Bool.and_eq_false_iff, decide_eq_false_iff_not]
  left
  omega
theorem block_set8 {w : World} {b o : Nat} {u : Value} {cs : Array Value} {T : TypeId} {fr : Nat × Nat} (hb : w.heap[b]? = some (.cells cs T fr)) : (w.setCell ⟨b, o, none⟩ u).heap[b]? = some (.cells (cs.setIfInBounds o u) T fr) := by
  simp [World.setCell, Array.getElem?_modify, hb]
theorem SB.set {g : Nat} {tl : List Value} {d : Array UInt8} {w : World} (h : SB g tl d w) {i : Nat} (hi : i < d.size) (x : UInt8) : SB g tl (d.setIfInBounds i x) (w.setCell ⟨g, i, none⟩ (.int .u8 (x.toNat : Int))) := by
  unfold SB at h ⊢
  rw [block_set8 h, Array.size_setIfInBounds]
  congr 2
  apply Array.ext'
  simp only [Array.toList_setIfInBounds, List.map_set]
  rw [List.set_append_left _ _ (by simpa using hi)]
  rfl
theorem SB.drewN {g : Nat} {tl : List Value} {d : Array UInt8} {w : World} (h : SB g tl d w) (n : Nat) : SB g tl d (w.drewN n) := h
theorem SB.grown {g : Nat} {tl : List Value} {d : Array UInt8} {w w' : World} (h : SB g tl d w) (hb : Below w.heap.size w w') : SB g tl d w' := (hb.block g (lt_of_block h)).trans h
theorem SB.alloc {g : Nat} {tl : List Value} {d : Array UInt8} {w : World} (h : SB g tl d w) (o : Obj) : SB g tl d (w.alloc o) := (Below.heap_alloc w o g (lt_of_block h)).trans h
/-- Only the block g has turned. -/
def On (g : Nat) (w w' : World) : Prop := w.grownBy w' (some g)
theorem On.refl (g : Nat) (w : World) : On g w w := ⟨rfl, rfl, rfl, Nat.le_refl _, fun _ _ _ => rfl⟩
theorem On.drewN {g : Nat} {w w' : World} (h : On g w w') (n : Nat) : On g w (w'.drewN n) := ⟨h.os, h.tape, h.output, h.size, h.block⟩
theorem On.set {g : Nat} {w w' : World} (h : On g w w') (i : Nat) (u : Value) : On g w (w'.setCell ⟨g, i, none⟩ u) :=
  ⟨h.os, h.tape, h.output, by simpa [World.setCell] using h.size, fun i hi hne => (Below.heap_setCell w' ⟨g, _, none⟩ u i (fun e => hne (by rw [e]))).trans (h.block i hi hne)⟩
theorem On.alloc {g : Nat} {w w' : World} (h : On g w w') (o : Obj) : On g w (w'.alloc o) :=
  ⟨h.os, h.tape, h.output, Nat.le_trans h.size (by simp), fun i hi hne => (Below.heap_alloc w' o i (Nat.lt_of_lt_of_le hi h.size)).trans (h.block i hi hne)⟩
theorem On.trans {g : Nat} {a b c : World} (h : On g a b) (k : On g b c) : On g a c :=
  ⟨k.os.trans h.os, k.tape.trans h.tape, k.output.trans h.output, Nat.le_trans h.size k.size, fun i hi hn => (k.block i (Nat.lt_of_lt_of_le hi h.size) hn).trans (h.block i hi hn)⟩
/-- Nothing is handed back; the block holds d'. -/
def SPost (g : Nat) (tl : List Value) (d' : Array UInt8) (w : World) (e : Ending) (w' : World) : Prop := e = .returned (.tuple #[]) ∧ SB g tl d' w' ∧ On g w w'
theorem swp_set (d : Array UInt8) (i j : Nat) : Sort.swp d i j = (d.setIfInBounds i d[j]!).setIfInBounds j d[i]! := rfl
theorem SB.swap {g : Nat} {tl : List Value} {d : Array UInt8} {w : World} (h : SB g tl d w) {i j : Nat} (hi : i < d.size) (hj : j < d.size) : SB g tl (Sort.swp d i j) ((w.setCell ⟨g, i, none⟩ (.int .u8 (d[j]!.toNat : Int))).setCell ⟨g, j, none⟩ (.int .u8 (d[i]!.toNat : Int))) :=
  (h.set hi d[j]!).set (by simpa using hj) d[i]!
theorem On.swap {g : Nat} {w w' : World} (h : On g w w') (i j : Nat) (u v : Value) : On g w ((w'.setCell ⟨g, i, none⟩ u).setCell ⟨g, j, none⟩ v) := (h.set i u).set j v

set_option maxHeartbeats 400000 in
theorem nan8 (x : UInt8) (w : World) : Calls Tryd.prog 99 #[.int .u8 (x.toNat : Int)] w fun e w' => e = .returned (.bool false) ∧ w = w' := by
  go_enter Tryd.func99, Tryd.ntmps99
  go_wp2
  go_ret
  exact ⟨by simp, rfl⟩
set_option maxHeartbeats 400000 in
theorem less8 (x y : UInt8) (w : World) : Calls Tryd.prog 88 #[.int .u8 (x.toNat : Int), .int .u8 (y.toNat : Int)] w fun e w' => e = .returned (.bool (ltB x y)) ∧ w = w' := by
  go_enter Tryd.func88, Tryd.ntmps88
  go_wp2_with (go_at_call 99; refine (nan8 _ _).mono ?_; rintro e w' ⟨rfl, rfl⟩)
  go_ret
  exact ⟨by unfold ltB; congr 2, rfl⟩
theorem less_b {x y : UInt8} {b : Bool} (h : ltB x y = b) (w : World) : Calls Tryd.prog 88 #[.int .u8 (x.toNat : Int), .int .u8 (y.toNat : Int)] w fun e w' => e = .returned (.bool b) ∧ w = w' := by
  have := less8 x y w; rwa [h] at this

theorem less_q {x y : UInt8} {b : Bool} (h : ltB x y = b) (w : World) : Calls Tryd.prog 88 #[.int .u8 (x.toNat : Int), .int .u8 (y.toNat : Int)] w fun e w' => e = .returned (.bool b) ∧ w' = w :=
  (less_b h w).mono fun _ _ ⟨h1, h2⟩ => ⟨h1, h2.symm⟩

theorem swo8 : Sort.SWO ltB where
  irrefl := fun x => by simp [ltB]
  trans := fun x y z h1 h2 => by simp only [ltB, decide_eq_true_eq] at *; omega
  ntrans := fun x y z h1 h2 => by simp only [ltB, decide_eq_false_iff_not] at *; omega

end Go.Proofs.YtnnojeoehomadaaDoor

/- Walks: the library's insertion sort at bytes. -/
namespace Go.Proofs.YtnnojeoehomadaaDoor
open Go.RowKit Pth

theorem insInner_go {a j : Nat} {d : Array UInt8} (h : j + 1 > a) (hl : ltB d[j + 1]! d[j]! = true) : Sort.insInner ltB a (j + 1) d = Sort.insInner ltB a j (Sort.swp d (j + 1) j) := by
  rw [Sort.insInner, hl, decide_eq_true h]; rfl
theorem insInner_stop {a j : Nat} {d : Array UInt8} (h : ltB d[j + 1]! d[j]! = false) : Sort.insInner ltB a (j + 1) d = d := by
  rw [Sort.insInner, h]; simp
theorem insInner_low {a j : Nat} {d : Array UInt8} (h : j ≤ a) : Sort.insInner ltB a j d = d := by
  cases j with
  | zero => rfl
  | succ j => rw [Sort.insInner, decide_eq_false (by omega : ¬ j + 1 > a)]; simp
theorem insOuter_go {a b i : Nat} {d : Array UInt8} (h : i < b) : Sort.insOuter ltB a b i d = Sort.insOuter ltB a b (i + 1) (Sort.insInner ltB a i d) := by
  rw [Sort.insOuter, if_pos h]
theorem insOuter_stop {a b i : Nat} {d : Array UInt8} (h : ¬ i < b) : Sort.insOuter ltB a b i d = d := by
  rw [Sort.insOuter, if_neg h]
theorem swp_sz (d : Array UInt8) (i j : Nat) : (Sort.swp d i j).size = d.size := by simp [Sort.swp]
theorem insInner_size (a j : Nat) (d : Array UInt8) : (Sort.insInner ltB a j d).size = d.size := by
  induction j generalizing d with
  | zero => rfl
  | succ j ih =>
    rw [Sort.insInner]
    split
    · rw [ih, swp_sz]
    · rfl

set_option maxRecDepth 20000 in
set_option maxHeartbeats 4000000 in
theorem insertion8 (g : Nat) (tl : List Value) (d0 : Array UInt8) (n cap a b : Nat) (w : World) (h : SB g tl d0 w) (hn : d0.size = n) (hc : n ≤ cap) (hb : b ≤ n) (hN : n ≤ 1000) (hab : a ≤ 1000) :
    Calls Tryd.prog 82 #[.slice (some ⟨g, 0, none⟩) n cap, .int .i64 a, .int .i64 b] w (SPost g tl (Sort.insertionSort ltB d0 a b) w) := by
  have HT : Hid (Sort.insertionSort ltB d0 a b = Sort.insOuter ltB a b (a + 1) d0) := rfl
  have HS := Lib.hid h
  have HZ := Lib.hid hn
  clear h hn
  go_enter Tryd.func82, Tryd.ntmps82
  go_wp2_with fail
  go_loopw [6] (fun q wr => ∃ (i : Nat) (d : Array UInt8), a + 1 ≤ i ∧ i ≤ 1001 ∧ q = .int .i64 i ∧ Hid (SB g tl d wr) ∧ Hid (On g w wr) ∧ Hid (d.size = n) ∧ Hid (Sort.insOuter ltB a b (a + 1) d0 = Sort.insOuter ltB a b i d)) (fun q _ => 1001 - (intOf q).toNat)
  case atStart => exact ⟨a + 1, d0, Nat.le_refl _, by omega, by go_num, HS, On.refl _ _, HZ, rfl⟩
  case round =>
    clear HS HZ
    obtain ⟨i, d, hi0, hi1, rfl, HS, HO, HZ, HE⟩ := hrel
    by_cases hlt : i < b
    · have HE1 := Lib.hid (HE.out.trans (insOuter_go hlt))
      clear HE
      go_wp2_with fail
      go_loopw [7] (fun q wq => ∃ (j : Nat) (c : Array UInt8), j ≤ i ∧ q = .int .i64 j ∧ Hid (SB g tl c wq) ∧ Hid (On g w wq) ∧ Hid (c.size = n) ∧ Hid (Sort.insInner ltB a i d = Sort.insInner ltB a j c)) (fun q _ => (intOf q).toNat)
      case atStart => exact ⟨i, d, Nat.le_refl _, rfl, HS, HO, HZ, rfl⟩
      case round =>
        clear HS HO HZ
        obtain ⟨j, c, hj, rfl, HS, HO, HZ, HF⟩ := hrel
        by_cases hja : a < j
        · obtain ⟨m, rfl⟩ : ∃ m, j = m + 1 := ⟨j - 1, by omega⟩
          have hg1 : decide ((a : Int) < (m : Int) + 1) = true := decide_eq_true (by omega)
          have c1 := HS.out.cell (i := m + 1) (by rw [HZ.out]; omega)
          have c0 := HS.out.cell (i := m) (by rw [HZ.out]; omega)
          obtain ⟨lb, hlb⟩ : ∃ lb, ltB c[m + 1]! c[m]! = lb := ⟨_, rfl⟩
          have HL := Lib.hid (fun W => less_q hlb W)
          have hx1 : (m : Int) + 1 < (n : Int) := by omega
          have hx0 : (m : Int) < (n : Int) := by omega
          have hx2 : (0 : Int) ≤ (m : Int) + 1 := by omega
          have hn1 : ((m : Int) + 1).toNat = m + 1 := by omega
          have hw1 : IntKind.i64.wrap (m : Int) = (m : Int) := IntWalk.i64_in _ (by omega)
          rcases lb with _ | _
          · have HF1 := Lib.hid (HF.out.trans (insInner_stop hlb))
            clear HF hlb
            generalize c[m + 1]! = x at c1 HL
            generalize c[m]! = y at c0 HL
            go_wp2_with fail
            go_quiet ((go_at_call 88; exact Calls.quiet_of_same (HL.out _)))
            go_wp2_with fail
            go_roundw
            case rel => exact ⟨i + 1, c, by omega, by omega, by go_num, HS.out.drewN _, HO.out.drewN _, HZ, by rw [HE1.out, HF1.out]; rfl⟩
            case measure => simp [intOf]; omega
          · have HF1 := Lib.hid (HF.out.trans (insInner_go hja hlb))
            have HS1 := Lib.hid (HS.out.swap (i := m + 1) (j := m) (by rw [HZ.out]; omega) (by rw [HZ.out]; omega))
            have HZ1 : Hid ((Sort.swp c (m + 1) m).size = n) := (swp_sz _ _ _).trans HZ.out
            have f1 := HS.out.frozen (m + 1) (by rw [HZ.out]; omega)
            have f0 := HS.out.frozen m (by rw [HZ.out]; omega)
            generalize Sort.swp c (m + 1) m = c' at HS1 HF1 HZ1
            clear HF hlb
            generalize c[m + 1]! = x at c1 HL HS1
            generalize c[m]! = y at c0 HL HS1
            go_wp2_with fail
            go_quiet ((go_at_call 88; exact Calls.quiet_of_same (HL.out _)))
            go_wp2_with fail
            go_region
            go_wp2_with fail
            go_roundw
            case rel => exact ⟨m, c', by omega, by go_num, HS1.out, (HO.out.drewN _).swap _ _ _ _, HZ1, HF1⟩
            case measure => simp [intOf]
        · have hg1 : decide ((a : Int) < (j : Int)) = false := decide_eq_false (by omega)
          have HF1 := Lib.hid (HF.out.trans (insInner_low (by omega)))
          clear HF
          go_wp2_with fail
          go_quiet (fail)
          go_wp2_with fail
          go_roundw
          case rel => exact ⟨i + 1, c, by omega, by omega, by go_num, HS.out.drewN _, HO.out.drewN _, HZ, by rw [HE1.out, HF1.out]; rfl⟩
          case measure => simp [intOf]; omega
    · have HE1 := Lib.hid (HE.out.trans (insOuter_stop hlt))
      clear HE
      go_wp2_with fail
      go_end0
      exact ⟨rfl, by rw [HT.out, HE1.out]; exact HS.out, HO.out⟩

end Go.Proofs.YtnnojeoehomadaaDoor

/- Walks: the library's heap sort at bytes. -/
namespace Go.Proofs.YtnnojeoehomadaaDoor
open Go.RowKit Pth

/-- The greater child. -/
def kid (hi first r : Nat) (d : Array UInt8) : Nat := if 2 * r + 1 + 1 < hi && ltB d[first + (2 * r + 1)]! d[first + (2 * r + 1) + 1]! then 2 * r + 2 else 2 * r + 1
theorem sift_end {hi first r : Nat} {d : Array UInt8} (h : hi ≤ 2 * r + 1) : Sort.siftDown ltB hi first r d = d := by
  rw [Sort.siftDown, dif_pos h]
theorem sift_step {hi first r : Nat} {d : Array UInt8} (h : ¬ hi ≤ 2 * r + 1) : Sort.siftDown ltB hi first r d = if ltB d[first + r]! d[first + kid hi first r d]! then Sort.siftDown ltB hi first (kid hi first r d) (Sort.swp d (first + r) (first + kid hi first r d)) else d := by
  rw [Sort.siftDown, dif_neg h]
  unfold kid
  by_cases hc : (decide (2 * r + 1 + 1 < hi) && ltB d[first + (2 * r + 1)]! d[first + (2 * r + 1) + 1]!) = true
  · rw [if_pos hc, if_pos hc]
    have h2 : 2 * r + 2 < hi := by simp only [Bool.and_eq_true, decide_eq_true_eq] at hc; omega
    rw [dif_pos h2]
    rcases hl : ltB d[first + r]! d[first + (2 * r + 2)]! with _ | _ <;> simp
  · rw [if_neg hc, if_neg hc]
    rcases hl : ltB d[first + r]! d[first + (2 * r + 1)]! with _ | _ <;> simp
theorem kid_lt {hi first r : Nat} {d : Array UInt8} (h : ¬ hi ≤ 2 * r + 1) : kid hi first r d < hi ∧ r < kid hi first r d := by
  unfold kid
  split
  · rename_i hc
    simp only [Bool.and_eq_true, decide_eq_true_eq] at hc
    omega
  · omega

set_option maxRecDepth 20000 in
set_option maxHeartbeats 4000000 in
theorem sift8 (g : Nat) (tl : List Value) (d0 : Array UInt8) (n cap lo hi first : Nat) (w : World) (h : SB g tl d0 w) (hn : d0.size = n) (hc : n ≤ cap) (hb : first + hi ≤ n) (hN : n ≤ 1000) (hlo : lo ≤ 1000) :
    Calls Tryd.prog 96 #[.slice (some ⟨g, 0, none⟩) n cap, .int .i64 lo, .int .i64 hi, .int .i64 first] w (SPost g tl (Sort.siftDown ltB hi first lo d0) w) := by
  have HS := Lib.hid h
  have HZ := Lib.hid hn
  clear h hn
  go_enter Tryd.func96, Tryd.ntmps96
  go_wp2_with fail
  go_loopw [8] (fun q wr => ∃ (r : Nat) (d : Array UInt8), r ≤ 1000 ∧ q = .int .i64 r ∧ Hid (SB g tl d wr) ∧ Hid (On g w wr) ∧ Hid (d.size = n) ∧ Hid (Sort.siftDown ltB hi first lo d0 = Sort.siftDown ltB hi first r d)) (fun q _ => 1000 - (intOf q).toNat)
  case atStart => exact ⟨lo, d0, hlo, rfl, HS, On.refl _ _, HZ, rfl⟩
  case round =>
    clear HS HZ
    obtain ⟨r, d, hr, rfl, HS, HO, HZ, HE⟩ := hrel
    by_cases hend : hi ≤ 2 * r + 1
    · have HE1 := Lib.hid (HE.out.trans (sift_end hend))
      have hd0 : decide (2 * (r : Int) + 1 ≥ (hi : Int)) = true := decide_eq_true (by omega)
      clear HE
      go_wp2_with fail
      go_end0
      exact ⟨rfl, by rw [HE1.out]; exact HS.out, HO.out⟩
    · have hd0 : decide (2 * (r : Int) + 1 ≥ (hi : Int)) = false := decide_eq_false (by omega)
      have HE1 := Lib.hid (HE.out.trans (sift_step hend))
      have hkl := kid_lt (first := first) (d := d) hend
      clear HE
      have p1 := HS.out.cell (i := first + (2 * r + 1)) (by rw [HZ.out]; omega)
      have a1 : (0 : Int) ≤ (first : Int) + (2 * (r : Int) + 1) := by omega
      have a2 : (first : Int) + (2 * (r : Int) + 1) < (n : Int) := by omega
      have a3 : IntKind.i64.wrap ((first : Int) + (2 * (r : Int) + 1)) = (first : Int) + (2 * (r : Int) + 1) := IntWalk.i64_in _ (by omega)
      have a4 : ((first : Int) + (2 * (r : Int) + 1)).toNat = first + (2 * r + 1) := by omega
      have a5 : IntKind.i64.wrap (2 * (r : Int) + 1 + 1) = 2 * (r : Int) + 1 + 1 := IntWalk.i64_in _ (by omega)
      by_cases h2 : 2 * r + 1 + 1 < hi
      · have g1 : decide (2 * (r : Int) + 1 + 1 < (hi : Int)) = true := decide_eq_true (by omega)
        have p2 := HS.out.cell (i := first + (2 * r + 1) + 1) (by rw [HZ.out]; omega)
        have b1 : (0 : Int) ≤ (first : Int) + (2 * (r : Int) + 1) + 1 := by omega
        have b2 : (first : Int) + (2 * (r : Int) + 1) + 1 < (n : Int) := by omega
        have b3 : IntKind.i64.wrap ((first : Int) + (2 * (r : Int) + 1) + 1) = (first : Int) + (2 * (r : Int) + 1) + 1 := IntWalk.i64_in _ (by omega)
        have b4 : ((first : Int) + (2 * (r : Int) + 1) + 1).toNat = first + (2 * r + 1) + 1 := by omega
        obtain ⟨l1, hl1⟩ : ∃ b, ltB d[first + (2 * r + 1)]! d[first + (2 * r + 1) + 1]! = b := ⟨_, rfl⟩
        have HL1 := Lib.hid (fun W => less_q hl1 W)
        have HKL : Hid (kid hi first r d = if l1 then 2 * r + 2 else 2 * r + 1) := by unfold kid Hid; rw [hl1, decide_eq_true h2]; rfl
        generalize d[first + (2 * r + 1)]! = x1 at p1 HL1
        generalize d[first + (2 * r + 1) + 1]! = x2 at p2 HL1
        clear hl1
        rcases l1 with _ | _
        · have HK : Hid (kid hi first r d = 2 * r + 1) := HKL.out
          clear HKL
          go_wp2_with fail
          go_quiet ((go_at_call 88; exact Calls.quiet_of_same (HL1.out _)))
          obtain ⟨w1, hw1⟩ : ∃ w1, w1 = wr.drewN nq := ⟨_, rfl⟩
          rw [← hw1]
          have HS1 : Hid (SB g tl d w1) := by rw [hw1]; exact HS.out.drewN _
          have HO1 : Hid (On g w w1) := by rw [hw1]; exact HO.out.drewN _
          clear hw1 HS HO
          rw [HK.out] at HE1 hkl
          have y1 := HS1.out.cell (i := first + r) (by rw [HZ.out]; omega)
          have y2 := HS1.out.cell (i := first + (2 * r + 1)) (by rw [HZ.out]; omega)
          have z1 := HS1.out.frozen (first + r) (by rw [HZ.out]; omega)
          have z2 := HS1.out.frozen (first + (2 * r + 1)) (by rw [HZ.out]; omega)
          have e1 : (0 : Int) ≤ (first : Int) + (r : Int) := by omega
          have e2 : (first : Int) + (r : Int) < (n : Int) := by omega
          have e3 : IntKind.i64.wrap ((first : Int) + (r : Int)) = (first : Int) + (r : Int) := IntWalk.i64_in _ (by omega)
          have e4 : ((first : Int) + (r : Int)).toNat = first + r := by omega
          have k1 : (0 : Int) ≤ (first : Int) + (2 * (r : Int) + 1) := by omega
          have k2 : (first : Int) + (2 * (r : Int) + 1) < (n : Int) := by omega
          have k3 : IntKind.i64.wrap ((first : Int) + (2 * (r : Int) + 1)) = (first : Int) + (2 * (r : Int) + 1) := IntWalk.i64_in _ (by omega)
          have k4 : ((first : Int) + (2 * (r : Int) + 1)).toNat = first + (2 * r + 1) := by omega
          obtain ⟨l2, hl2⟩ : ∃ b, ltB d[first + r]! d[first + (2 * r + 1)]! = b := ⟨_, rfl⟩
          have HL2 := Lib.hid (fun W => less_q hl2 W)
          have HSW := Lib.hid (HS1.out.swap (i := first + r) (j := first + (2 * r + 1)) (by rw [HZ.out]; omega) (by rw [HZ.out]; omega))
          have HZ1 : Hid ((Sort.swp d (first + r) (first + (2 * r + 1))).size = n) := (swp_sz _ _ _).trans HZ.out
          rw [hl2] at HE1
          generalize Sort.swp d (first + r) (first + (2 * r + 1)) = d' at HSW HZ1 HE1
          generalize d[first + r]! = v1 at y1 HL2 HSW
          generalize d[first + (2 * r + 1)]! = v2 at y2 HL2 HSW
          clear hl2
          rcases l2 with _ | _
          · go_wp2_with fail
            go_quiet ((go_at_call 88; exact Calls.quiet_of_same (HL2.out _)))
            go_wp2_with fail
            go_end0
            exact ⟨rfl, by rw [HE1.out]; exact HS1.out, HO1.out.drewN _⟩
          · go_wp2_with fail
            go_quiet ((go_at_call 88; exact Calls.quiet_of_same (HL2.out _)))
            go_wp2_with fail
            go_region
            go_wp2_with fail
            go_roundw
            case rel => exact ⟨2 * r + 1, d', by omega, by go_num, HSW.out, (HO1.out.drewN _).swap _ _ _ _, HZ1, by rw [HE1.out]; rfl⟩
            case measure => simp [intOf]; omega
        · have HK : Hid (kid hi first r d = 2 * r + 1 + 1) := HKL.out
          clear HKL
          go_wp2_with fail
          go_quiet ((go_at_call 88; exact Calls.quiet_of_same (HL1.out _)))
          obtain ⟨w1, hw1⟩ : ∃ w1, w1 = wr.drewN nq := ⟨_, rfl⟩
          rw [← hw1]
          have HS1 : Hid (SB g tl d w1) := by rw [hw1]; exact HS.out.drewN _
          have HO1 : Hid (On g w w1) := by rw [hw1]; exact HO.out.drewN _
          clear hw1 HS HO
          rw [HK.out] at HE1 hkl
          have y1 := HS1.out.cell (i := first + r) (by rw [HZ.out]; omega)
          have y2 := HS1.out.cell (i := first + (2 * r + 1 + 1)) (by rw [HZ.out]; omega)
          have z1 := HS1.out.frozen (first + r) (by rw [HZ.out]; omega)
          have z2 := HS1.out.frozen (first + (2 * r + 1 + 1)) (by rw [HZ.out]; omega)
          have e1 : (0 : Int) ≤ (first : Int) + (r : Int) := by omega
          have e2 : (first : Int) + (r : Int) < (n : Int) := by omega
          have e3 : IntKind.i64.wrap ((first : Int) + (r : Int)) = (first : Int) + (r : Int) := IntWalk.i64_in _ (by omega)
          have e4 : ((first : Int) + (r : Int)).toNat = first + r := by omega
          have k1 : (0 : Int) ≤ (first : Int) + (2 * (r : Int) + 1 + 1) := by omega
          have k2 : (first : Int) + (2 * (r : Int) + 1 + 1) < (n : Int) := by omega
          have k3 : IntKind.i64.wrap ((first : Int) + (2 * (r : Int) + 1 + 1)) = (first : Int) + (2 * (r : Int) + 1 + 1) := IntWalk.i64_in _ (by omega)
          have k4 : ((first : Int) + (2 * (r : Int) + 1 + 1)).toNat = first + (2 * r + 1 + 1) := by omega
          obtain ⟨l2, hl2⟩ : ∃ b, ltB d[first + r]! d[first + (2 * r + 1 + 1)]! = b := ⟨_, rfl⟩
          have HL2 := Lib.hid (fun W => less_q hl2 W)
          have HSW := Lib.hid (HS1.out.swap (i := first + r) (j := first + (2 * r + 1 + 1)) (by rw [HZ.out]; omega) (by rw [HZ.out]; omega))
          have HZ1 : Hid ((Sort.swp d (first + r) (first + (2 * r + 1 + 1))).size = n) := (swp_sz _ _ _).trans HZ.out
          rw [hl2] at HE1
          generalize Sort.swp d (first + r) (first + (2 * r + 1 + 1)) = d' at HSW HZ1 HE1
          generalize d[first + r]! = v1 at y1 HL2 HSW
          generalize d[first + (2 * r + 1 + 1)]! = v2 at y2 HL2 HSW
          clear hl2
          rcases l2 with _ | _
          · go_wp2_with fail
            go_quiet ((go_at_call 88; exact Calls.quiet_of_same (HL2.out _)))
            go_wp2_with fail
            go_end0
            exact ⟨rfl, by rw [HE1.out]; exact HS1.out, HO1.out.drewN _⟩
          · go_wp2_with fail
            go_quiet ((go_at_call 88; exact Calls.quiet_of_same (HL2.out _)))
            go_wp2_with fail
            go_region
            go_wp2_with fail
            go_roundw
            case rel => exact ⟨2 * r + 1 + 1, d', by omega, by go_num, HSW.out, (HO1.out.drewN _).swap _ _ _ _, HZ1, by rw [HE1.out]; rfl⟩
            case measure => simp [intOf]; omega
      · have g1 : decide (2 * (r : Int) + 1 + 1 < (hi : Int)) = false := decide_eq_false (by omega)
        have HK : Hid (kid hi first r d = 2 * r + 1) := by unfold kid Hid; rw [decide_eq_false h2]; rfl
        go_wp2_with fail
        go_quiet (fail)
        obtain ⟨w1, hw1⟩ : ∃ w1, w1 = wr.drewN nq := ⟨_, rfl⟩
        rw [← hw1]
        have HS1 : Hid (SB g tl d w1) := by rw [hw1]; exact HS.out.drewN _
        have HO1 : Hid (On g w w1) := by rw [hw1]; exact HO.out.drewN _
        clear hw1 HS HO
        rw [HK.out] at HE1 hkl
        have y1 := HS1.out.cell (i := first + r) (by rw [HZ.out]; omega)
        have y2 := HS1.out.cell (i := first + (2 * r + 1)) (by rw [HZ.out]; omega)
        have z1 := HS1.out.frozen (first + r) (by rw [HZ.out]; omega)
        have z2 := HS1.out.frozen (first + (2 * r + 1)) (by rw [HZ.out]; omega)
        have e1 : (0 : Int) ≤ (first : Int) + (r : Int) := by omega
        have e2 : (first : Int) + (r : Int) < (n : Int) := by omega
        have e3 : IntKind.i64.wrap ((first : Int) + (r : Int)) = (first : Int) + (r : Int) := IntWalk.i64_in _ (by omega)
        have e4 : ((first : Int) + (r : Int)).toNat = first + r := by omega
        have k1 : (0 : Int) ≤ (first : Int) + (2 * (r : Int) + 1) := by omega
        have k2 : (first : Int) + (2 * (r : Int) + 1) < (n : Int) := by omega
        have k3 : IntKind.i64.wrap ((first : Int) + (2 * (r : Int) + 1)) = (first : Int) + (2 * (r : Int) + 1) := IntWalk.i64_in _ (by omega)
        have k4 : ((first : Int) + (2 * (r : Int) + 1)).toNat = first + (2 * r + 1) := by omega
        obtain ⟨l2, hl2⟩ : ∃ b, ltB d[first + r]! d[first + (2 * r + 1)]! = b := ⟨_, rfl⟩
        have HL2 := Lib.hid (fun W => less_q hl2 W)
        have HSW := Lib.hid (HS1.out.swap (i := first + r) (j := first + (2 * r + 1)) (by rw [HZ.out]; omega) (by rw [HZ.out]; omega))
        have HZ1 : Hid ((Sort.swp d (first + r) (first + (2 * r + 1))).size = n) := (swp_sz _ _ _).trans HZ.out
        rw [hl2] at HE1
        generalize Sort.swp d (first + r) (first + (2 * r + 1)) = d' at HSW HZ1 HE1
        generalize d[first + r]! = v1 at y1 HL2 HSW
        generalize d[first + (2 * r + 1)]! = v2 at y2 HL2 HSW
        clear hl2
        rcases l2 with _ | _
        · go_wp2_with fail
          go_quiet ((go_at_call 88; exact Calls.quiet_of_same (HL2.out _)))
          go_wp2_with fail
          go_end0
          exact ⟨rfl, by rw [HE1.out]; exact HS1.out, HO1.out.drewN _⟩
        · go_wp2_with fail
          go_quiet ((go_at_call 88; exact Calls.quiet_of_same (HL2.out _)))
          go_wp2_with fail
          go_region
          go_wp2_with fail
          go_roundw
          case rel => exact ⟨2 * r + 1, d', by omega, by go_num, HSW.out, (HO1.out.drewN _).swap _ _ _ _, HZ1, by rw [HE1.out]; rfl⟩
          case measure => simp [intOf]; omega

end Go.Proofs.YtnnojeoehomadaaDoor

/- Walks: the library's heap sort at bytes: built and taken apart. -/
namespace Go.Proofs.YtnnojeoehomadaaDoor
open Go.RowKit Pth

theorem sift_size (hi first : Nat) : ∀ (m r : Nat) (d : Array UInt8), hi - r ≤ m → (Sort.siftDown ltB hi first r d).size = d.size := by
  intro m
  induction m with
  | zero =>
    intro r d h
    rw [sift_end (by omega)]
  | succ m ih =>
    intro r d h
    by_cases hend : hi ≤ 2 * r + 1
    · rw [sift_end hend]
    · rw [sift_step hend]
      have hk := kid_lt (first := first) (d := d) hend
      split
      · rw [ih _ _ (by omega), swp_sz]
      · rfl
theorem sift_sz (hi first r : Nat) (d : Array UInt8) : (Sort.siftDown ltB hi first r d).size = d.size := sift_size hi first _ r d (Nat.le_refl _)
theorem sift8i (g : Nat) (tl : List Value) (d0 : Array UInt8) (n cap lo hi first : Nat) (LO HI FI : Int) (h1 : LO = lo) (h2 : HI = hi) (h3 : FI = first) (w : World) (h : SB g tl d0 w) (hn : d0.size = n) (hc : n ≤ cap) (hb : first + hi ≤ n) (hN : n ≤ 1000) (hlo : lo ≤ 1000) :
    Calls Tryd.prog 96 #[.slice (some ⟨g, 0, none⟩) n cap, .int .i64 LO, .int .i64 HI, .int .i64 FI] w (SPost g tl (Sort.siftDown ltB hi first lo d0) w) := by
  subst h1 h2 h3
  exact sift8 g tl d0 n cap lo hi first w h hn hc hb hN hlo
theorem build_go (hi first k : Nat) (d : Array UInt8) : Sort.heapBuild ltB hi first (k + 1) d = Sort.heapBuild ltB hi first k (Sort.siftDown ltB hi first k d) := rfl
theorem pop_go (first k : Nat) (d : Array UInt8) : Sort.heapPop ltB first (k + 1) d = Sort.heapPop ltB first k (Sort.siftDown ltB k first 0 (Sort.swp d first (first + k))) := rfl

set_option maxRecDepth 20000 in
set_option maxHeartbeats 4000000 in
theorem heap8 (g : Nat) (tl : List Value) (d0 : Array UInt8) (n cap a b : Nat) (w : World) (h : SB g tl d0 w) (hn : d0.size = n) (hc : n ≤ cap) (hb : b ≤ n) (hN : n ≤ 1000) (hpos : a < b) :
    Calls Tryd.prog 83 #[.slice (some ⟨g, 0, none⟩) n cap, .int .i64 a, .int .i64 b] w (SPost g tl (Sort.heapSort ltB d0 a b) w) := by
  obtain ⟨hi, hhi⟩ : ∃ hi, hi = b - a := ⟨_, rfl⟩
  have HT : Hid (Sort.heapSort ltB d0 a b = Sort.heapPop ltB a hi (Sort.heapBuild ltB hi a ((hi - 1) / 2 + 1) d0)) := by subst hhi; rfl
  have HI1 : (b : Int) ≤ (a : Int) + (hi : Int) := by omega
  have HI2 : (a : Int) + (hi : Int) ≤ (b : Int) := by omega
  have HS := Lib.hid h
  have HZ := Lib.hid hn
  clear h hn hhi
  go_enter Tryd.func83, Tryd.ntmps83
  go_wp2_with fail
  go_loopw [9] (fun q wr => ∃ (k : Nat) (d : Array UInt8), k ≤ (hi - 1) / 2 + 1 ∧ q = .int .i64 ((k : Int) - 1) ∧ Hid (SB g tl d wr) ∧ Hid (On g w wr) ∧ Hid (d.size = n) ∧ Hid (Sort.heapBuild ltB hi a ((hi - 1) / 2 + 1) d0 = Sort.heapBuild ltB hi a k d)) (fun q _ => (intOf q + 1).toNat)
  case atStart => exact ⟨(hi - 1) / 2 + 1, d0, Nat.le_refl _, by congr 1; omega, HS, On.refl _ _, HZ, rfl⟩
  case round =>
    clear HS HZ
    obtain ⟨k, d, hk, rfl, HS, HO, HZ, HE⟩ := hrel
    rcases k with _ | k
    · have HE1 : Hid (Sort.heapBuild ltB hi a ((hi - 1) / 2 + 1) d0 = d) := HE.out
      clear HE
      go_wp2_with fail
      go_loopw [10] (fun q wq => ∃ (m : Nat) (c : Array UInt8), m ≤ hi ∧ q = .int .i64 ((m : Int) - 1) ∧ Hid (SB g tl c wq) ∧ Hid (On g w wq) ∧ Hid (c.size = n) ∧ Hid (Sort.heapPop ltB a hi d = Sort.heapPop ltB a m c)) (fun q _ => (intOf q + 1).toNat)
      case atStart => exact ⟨hi, d, Nat.le_refl _, by congr 1; omega, HS, HO, HZ, rfl⟩
      case round =>
        clear HS HO HZ
        obtain ⟨m, c, hm, rfl, HS, HO, HZ, HF⟩ := hrel
        rcases m with _ | m
        · have HF1 : Hid (Sort.heapPop ltB a hi d = c) := HF.out
          clear HF
          go_wp2_with fail
          go_end0
          exact ⟨rfl, by rw [HT.out, HE1.out, HF1.out]; exact HS.out, HO.out⟩
        · have HF1 := Lib.hid (HF.out.trans (pop_go a m c))
          have y1 := HS.out.cell (i := a) (by rw [HZ.out]; omega)
          have y2 := HS.out.cell (i := a + m) (by rw [HZ.out]; omega)
          have y3 := (HS.out.set (i := a) (by rw [HZ.out]; omega) c[a + m]!).cell (i := a + m) (by simp [HZ.out]; omega)
          have z1 := HS.out.frozen a (by rw [HZ.out]; omega)
          have z2 := HS.out.frozen (a + m) (by rw [HZ.out]; omega)
          have e2 : (a : Int) < (n : Int) := by omega
          have k1 : (0 : Int) ≤ (a : Int) + (m : Int) := by omega
          have k2 : (a : Int) + (m : Int) < (n : Int) := by omega
          have k3 : IntKind.i64.wrap ((a : Int) + (m : Int)) = (a : Int) + (m : Int) := IntWalk.i64_in _ (by omega)
          have k4 : ((a : Int) + (m : Int)).toNat = a + m := by omega
          have HSW := Lib.hid (HS.out.swap (i := a) (j := a + m) (by rw [HZ.out]; omega) (by rw [HZ.out]; omega))
          have HZ1 : Hid ((Sort.swp c a (a + m)).size = n) := (swp_sz _ _ _).trans HZ.out
          have HOW := Lib.hid (HO.out.swap a (a + m) (.int .u8 (c[a + m]!.toNat : Int)) (.int .u8 (c[a]!.toNat : Int)))
          generalize Sort.swp c a (a + m) = c' at HSW HZ1 HF1
          clear HF HS HO HZ
          generalize (c.setIfInBounds a c[a + m]!)[a + m]! = v3 at y3
          generalize c[a]! = v1 at y1 HSW HOW
          generalize c[a + m]! = v2 at y2 HSW HOW y3
          have HC := Lib.hid (fun (W : World) (hs : SB g tl c' W) => sift8i g tl c' n cap 0 m a 0 (m : Int) a rfl rfl rfl W hs HZ1.out hc (by omega) hN (by omega))
          have HZ2 : Hid ((Sort.siftDown ltB m a 0 c').size = n) := (sift_sz _ _ _ _).trans HZ1.out
          generalize Sort.siftDown ltB m a 0 c' = c2 at HC HZ2 HF1
          go_wp2_with fail
          go_region
          go_wp2_with fail
          refine (HC.out _ (by exact HSW.out)).mono ?_
          rintro e w3 ⟨rfl, hs3, ho3⟩
          have HS3 := Lib.hid hs3
          have HO3 := Lib.hid ((HOW.out.drewN 1).trans ho3)
          clear hs3 ho3 HC HSW HOW
          go_wp2_with fail
          go_roundw
          case rel => ((repeat apply Exists.intro); exact ⟨⟨m, c2, by omega, by go_num, HS3, HO3, HZ2, HF1⟩, rfl⟩)
          case measure => simp [intOf]
    · have HE1 := Lib.hid (HE.out.trans (build_go hi a k d))
      have HC := Lib.hid (sift8i g tl d n cap k hi a (k : Int) ((b : Int) - (a : Int)) a rfl (by omega) rfl wr HS.out HZ.out hc (by omega) hN (by omega))
      have HZ1 : Hid ((Sort.siftDown ltB hi a k d).size = n) := (sift_sz _ _ _ _).trans HZ.out
      clear HE
      generalize Sort.siftDown ltB hi a k d = d' at HC HZ1 HE1
      go_wp2_with fail
      with_reducible refine HC.out.mono ?_
      rintro e w1 ⟨rfl, hs1, ho1⟩
      have HS1 := Lib.hid hs1
      have HO1 := Lib.hid (HO.out.trans ho1)
      clear hs1 ho1 HC HS HO HZ
      go_wp2_with fail
      go_roundw
      case rel => exact ⟨k, d', by omega, by go_num, HS1, HO1, HZ1, HE1⟩
      case measure => simp [intOf]

end Go.Proofs.YtnnojeoehomadaaDoor

/- Walks: the library's sort at bytes: turned about; in order already; the pivot. -/
namespace Go.Proofs.YtnnojeoehomadaaDoor
open Go.RowKit Pth

theorem rev_go {i j : Nat} {d : Array UInt8} (h : i < j) : Sort.reverseLoop i j d = Sort.reverseLoop (i + 1) (j - 1) (Sort.swp d i j) := by
  rw [Sort.reverseLoop, if_pos h]
theorem rev_stop {i j : Nat} {d : Array UInt8} (h : ¬ i < j) : Sort.reverseLoop i j d = d := by
  rw [Sort.reverseLoop, if_neg h]

set_option maxRecDepth 20000 in
set_option maxHeartbeats 4000000 in
theorem reverse8 (g : Nat) (tl : List Value) (d0 : Array UInt8) (n cap a b : Nat) (w : World) (h : SB g tl d0 w) (hn : d0.size = n) (hc : n ≤ cap) (hb : b ≤ n) (hN : n ≤ 1000) (hpos : a < b) :
    Calls Tryd.prog 86 #[.slice (some ⟨g, 0, none⟩) n cap, .int .i64 a, .int .i64 b] w (SPost g tl (Sort.reverseRange d0 a b) w) := by
  have HT : Hid (Sort.reverseRange d0 a b = Sort.reverseLoop a (b - 1) d0) := rfl
  have HS := Lib.hid h
  have HZ := Lib.hid hn
  clear h hn
  go_enter Tryd.func86, Tryd.ntmps86
  go_wp2_with fail
  go_loopw [6, 7] (fun p q wr => ∃ (i j : Nat) (d : Array UInt8), i ≤ 1000 ∧ j < b ∧ p = .int .i64 i ∧ q = .int .i64 j ∧ Hid (SB g tl d wr) ∧ Hid (On g w wr) ∧ Hid (d.size = n) ∧ Hid (Sort.reverseLoop a (b - 1) d0 = Sort.reverseLoop i j d)) (fun p _ _ => 1000 - (intOf p).toNat)
  case atStart => exact ⟨a, b - 1, d0, by omega, by omega, rfl, by congr 1; omega, HS, On.refl _ _, HZ, rfl⟩
  case round =>
    clear HS HZ
    obtain ⟨i, j, d, hi, hj, rfl, rfl, HS, HO, HZ, HE⟩ := hrel
    by_cases hlt : i < j
    · have HE1 := Lib.hid (HE.out.trans (rev_go hlt))
      have y1 := HS.out.cell (i := i) (by rw [HZ.out]; omega)
      have y2 := HS.out.cell (i := j) (by rw [HZ.out]; omega)
      have z1 := HS.out.frozen i (by rw [HZ.out]; omega)
      have z2 := HS.out.frozen j (by rw [HZ.out]; omega)
      have e1 : (i : Int) < (n : Int) := by omega
      have e2 : (j : Int) < (n : Int) := by omega
      have HSW := Lib.hid (HS.out.swap (i := i) (j := j) (by rw [HZ.out]; omega) (by rw [HZ.out]; omega))
      have HZ1 : Hid ((Sort.swp d i j).size = n) := (swp_sz _ _ _).trans HZ.out
      generalize Sort.swp d i j = d' at HSW HZ1 HE1
      clear HE HS HZ
      generalize d[i]! = v1 at y1 HSW
      generalize d[j]! = v2 at y2 HSW
      go_wp2_with fail
      go_region
      go_wp2_with fail
      go_roundw
      case rel => exact ⟨i + 1, j - 1, d', by omega, by omega, by go_num, by congr 1; omega, HSW.out, (HO.out.drewN 1).swap _ _ _ _, HZ1, HE1⟩
      case measure => simp [intOf]; omega
    · have HE1 := Lib.hid (HE.out.trans (rev_stop hlt))
      clear HE
      go_wp2_with fail
      go_end0
      exact ⟨rfl, by rw [HT.out, HE1.out]; exact HS.out, HO.out⟩

/-- In order from a on, up to i. -/
def Ord8 (d : Array UInt8) (a i : Nat) : Prop := ∀ k, a < k → k < i → ltB d[k]! d[k - 1]! = false
theorem ord_sorted {d : Array UInt8} {a b : Nat} (h : Ord8 d a b) : Sort.SortedIn ltB a b d := by
  intro i j hi hij hj
  induction j with
  | zero => omega
  | succ j ih =>
    have h1 := h (j + 1) (by omega) hj
    rw [Nat.add_sub_cancel] at h1
    by_cases e : i = j
    · subst e; exact h1
    · have h2 := ih (by omega) (by omega)
      exact swo8.ntrans _ _ _ h1 h2

/-- Whether it is in order already; the block is as it was. -/
def PartPost (g : Nat) (tl : List Value) (d : Array UInt8) (a b : Nat) (w : World) (e : Ending) (w' : World) : Prop :=
  ∃ r : Bool, e = .returned (.bool r) ∧ (r = true → Sort.SortedIn ltB a b d) ∧ SB g tl d w' ∧ On g w w'

set_option maxRecDepth 20000 in
set_option maxHeartbeats 4000000 in
theorem partial8 (g : Nat) (tl : List Value) (d : Array UInt8) (n cap a b : Nat) (w : World) (h : SB g tl d w) (hn : d.size = n) (hc : n ≤ cap) (hb : b ≤ n) (hN : n ≤ 1000) (hpos : a < b) (hlen : b - a < 50) :
    Calls Tryd.prog 87 #[.slice (some ⟨g, 0, none⟩) n cap, .int .i64 a, .int .i64 b] w (PartPost g tl d a b w) := by
  have HS := Lib.hid h
  have HZ := Lib.hid hn
  have hl50 : decide ((b : Int) - (a : Int) < 50) = true := decide_eq_true (by omega)
  clear h hn
  go_enter Tryd.func87, Tryd.ntmps87
  go_wp2_with fail
  go_loopw [7, 8] (fun p q wr => p = .int .i64 ((a : Int) + 1) ∧ q = .int .i64 0 ∧ w = wr) (fun _ _ _ => 0)
  case atStart => exact ⟨rfl, rfl, rfl⟩
  case round =>
    obtain ⟨rfl, rfl, rfl⟩ := hrel
    go_wp2_with fail
    go_loopw [7] (fun p wr => ∃ i : Nat, a + 1 ≤ i ∧ i ≤ b ∧ p = .int .i64 i ∧ Hid (SB g tl d wr) ∧ Hid (On g w wr) ∧ Hid (Ord8 d a i)) (fun p _ => b - (intOf p).toNat)
    case atStart => exact ⟨a + 1, Nat.le_refl _, by omega, by go_num, HS, On.refl _ _, fun k h1 h2 => by omega⟩
    case round =>
      clear HS
      obtain ⟨i, hi0, hi1, rfl, HS, HO, HE⟩ := hrel
      by_cases hlt : i < b
      · obtain ⟨m, rfl⟩ : ∃ m, i = m + 1 := ⟨i - 1, by omega⟩
        have hg1 : decide ((m : Int) + 1 < (b : Int)) = true := decide_eq_true (by omega)
        have c1 := HS.out.cell (i := m + 1) (by rw [HZ.out]; omega)
        have c0 := HS.out.cell (i := m) (by rw [HZ.out]; omega)
        obtain ⟨lb, hlb⟩ : ∃ lb, ltB d[m + 1]! d[m]! = lb := ⟨_, rfl⟩
        have HL := Lib.hid (fun W => less_q hlb W)
        have hx1 : (m : Int) + 1 < (n : Int) := by omega
        have hx0 : (m : Int) < (n : Int) := by omega
        have hx2 : (0 : Int) ≤ (m : Int) + 1 := by omega
        have hn1 : ((m : Int) + 1).toNat = m + 1 := by omega
        have hw1 : IntKind.i64.wrap (m : Int) = (m : Int) := IntWalk.i64_in _ (by omega)
        rcases lb with _ | _
        · have HE1 : Hid (Ord8 d a (m + 1 + 1)) := by
            intro k h1 h2
            by_cases e : k = m + 1
            · subst e; exact hlb
            · exact HE.out k h1 (by omega)
          clear HE hlb
          generalize d[m + 1]! = x at c1 HL
          generalize d[m]! = y at c0 HL
          go_wp2_with fail
          go_quiet ((go_at_call 88; exact Calls.quiet_of_same (HL.out _)))
          go_wp2_with fail
          go_roundw
          case rel => exact ⟨m + 1 + 1, by omega, by omega, by go_num, HS.out.drewN _, HO.out.drewN _, HE1⟩
          case measure => simp [intOf]; omega
        · have hne : ((m : Int) + 1 == (b : Int)) = false := by simp; omega
          clear HE hlb
          generalize d[m + 1]! = x at c1 HL
          generalize d[m]! = y at c0 HL
          go_wp2_with fail
          go_quiet ((go_at_call 88; exact Calls.quiet_of_same (HL.out _)))
          go_wp2_with fail
          go_ret
          exact ⟨false, rfl, (fun h => by cases h), HS.out.drewN _, HO.out.drewN _⟩
      · have HSO := Lib.hid (ord_sorted (show Ord8 d a b by have := HE.out; rwa [show i = b by omega] at this))
        have hg1 : decide ((i : Int) < (b : Int)) = false := decide_eq_false (by omega)
        have heq : ((i : Int) == (b : Int)) = true := by simp; omega
        clear HE
        go_wp2_with fail
        go_quiet (fail)
        go_wp2_with fail
        go_ret
        exact ⟨true, rfl, fun _ => HSO.out, HS.out.drewN _, HO.out.drewN _⟩

end Go.Proofs.YtnnojeoehomadaaDoor

/- Walks: the library's sort at bytes: the pivot. -/
namespace Go.Proofs.YtnnojeoehomadaaDoor
open Go.RowKit Pth

/-- A counter in a block of its own. -/
def Cnt (s v : Nat) (w : World) : Prop := w.heap[s]? = some (.cells #[.int .i64 (v : Int)] 3 (0, 0))
theorem Cnt.cell {s v : Nat} {w : World} (h : Cnt s v w) : w.cell? ⟨s, 0, none⟩ = some (.int .i64 (v : Int)) := by unfold Cnt at h; rw [Lib.cell_of_heap h]; rfl
theorem Cnt.frozen {s v : Nat} {w : World} (h : Cnt s v w) : w.frozen? ⟨s, 0, none⟩ = false := Lib.frozen_of_heap h 0
theorem Cnt.set {s v : Nat} {w : World} (h : Cnt s v w) (u : Nat) : Cnt s u (w.setCell ⟨s, 0, none⟩ (.int .i64 (u : Int))) := by
  unfold Cnt at h ⊢
  rw [block_set8 h]; rfl
theorem SB.on {g s : Nat} {tl : List Value} {d : Array UInt8} {w w' : World} (h : SB g tl d w) (ho : On s w w') (hne : g ≠ s) : SB g tl d w' := (ho.block g (lt_of_block h) (by simpa using hne)).trans h

/-- Two places in order; the counter goes up by one at most. -/
def Ord2Post (g s : Nat) (tl : List Value) (d : Array UInt8) (a b v : Nat) (w : World) (e : Ending) (w' : World) : Prop :=
  ∃ x y v' : Nat, ((x = a ∧ y = b) ∨ (x = b ∧ y = a)) ∧ v' ≤ v + 1 ∧ e = .returned (.tuple #[.int .i64 x, .int .i64 y]) ∧ Cnt s v' w' ∧ SB g tl d w' ∧ On s w w'

set_option maxRecDepth 20000 in
set_option maxHeartbeats 2000000 in
theorem order2_8 (g s : Nat) (tl : List Value) (d : Array UInt8) (n cap a b v : Nat) (w : World) (h : SB g tl d w) (hk : Cnt s v w) (hgs : g ≠ s) (hn : d.size = n) (hc : n ≤ cap) (ha : a < n) (hb : b < n) (hN : n ≤ 1000) (hv : v ≤ 1000) :
    Calls Tryd.prog 104 #[.slice (some ⟨g, 0, none⟩) n cap, .int .i64 a, .int .i64 b, .pointer (some ⟨s, 0, none⟩)] w (Ord2Post g s tl d a b v w) := by
  have HS := Lib.hid h
  have HK := Lib.hid hk
  have c1 := HS.out.cell (i := b) (by omega)
  have c0 := HS.out.cell (i := a) (by omega)
  have ck := HK.out.cell
  have cf := HK.out.frozen
  obtain ⟨lb, hlb⟩ : ∃ lb, ltB d[b]! d[a]! = lb := ⟨_, rfl⟩
  have HL := Lib.hid (fun W => less_q hlb W)
  have hx1 : (b : Int) < (n : Int) := by omega
  have hx0 : (a : Int) < (n : Int) := by omega
  clear h hk hn hlb
  generalize d[b]! = x at c1 HL
  generalize d[a]! = y at c0 HL
  rcases lb with _ | _
  · go_enter Tryd.func104, Tryd.ntmps104
    go_wp2_with fail
    go_quiet ((go_at_call 88; exact Calls.quiet_of_same (HL.out _)))
    go_wp2_with fail
    go_ret2
    exact ⟨a, b, v, .inl ⟨rfl, rfl⟩, by omega, rfl, HK.out, HS.out.drewN _, (On.refl _ _).drewN _⟩
  · have HK1 := Lib.hid (HK.out.set (v + 1))
    go_enter Tryd.func104, Tryd.ntmps104
    go_wp2_with fail
    go_quiet ((go_at_call 88; exact Calls.quiet_of_same (HL.out _)))
    go_wp2_with fail
    go_ret2
    exact ⟨b, a, v + 1, .inr ⟨rfl, rfl⟩, by omega, rfl, HK1.out, HS.out.on (((On.refl s w).drewN _).set 0 _) hgs, ((On.refl s w).drewN _).set 0 _⟩

/-- One of three places. -/
def MedPost (g s : Nat) (tl : List Value) (d : Array UInt8) (a b c v : Nat) (w : World) (e : Ending) (w' : World) : Prop :=
  ∃ x v' : Nat, (x = a ∨ x = b ∨ x = c) ∧ v' ≤ v + 3 ∧ e = .returned (.int .i64 x) ∧ Cnt s v' w' ∧ SB g tl d w' ∧ On s w w'

set_option maxRecDepth 20000 in
set_option maxHeartbeats 2000000 in
theorem median8 (g s : Nat) (tl : List Value) (d : Array UInt8) (n cap a b c v : Nat) (w : World) (h : SB g tl d w) (hk : Cnt s v w) (hgs : g ≠ s) (hn : d.size = n) (hc : n ≤ cap) (ha : a < n) (hb : b < n) (hcc : c < n) (hN : n ≤ 1000) (hv : v ≤ 900) :
    Calls Tryd.prog 98 #[.slice (some ⟨g, 0, none⟩) n cap, .int .i64 a, .int .i64 b, .int .i64 c, .pointer (some ⟨s, 0, none⟩)] w (MedPost g s tl d a b c v w) := by
  have HN := Lib.hid hn
  have HC1 := Lib.hid (order2_8 g s tl d n cap a b v w h hk hgs hn hc ha hb hN (by omega))
  clear h hk hn
  go_enter Tryd.func98, Tryd.ntmps98
  go_wp2_with fail
  refine HC1.out.mono ?_
  rintro e w1 ⟨x1, y1, v1, hxy1, hv1, rfl, hk1, hs1, ho1⟩
  have HC2 := Lib.hid (order2_8 g s tl d n cap y1 c v1 w1 hs1 hk1 hgs HN.out hc (by omega) hcc hN (by omega))
  have HO1 := Lib.hid ho1
  clear hk1 hs1 ho1 HC1
  go_wp2_with fail
  refine HC2.out.mono ?_
  rintro e w2 ⟨x2, y2, v2, hxy2, hv2, rfl, hk2, hs2, ho2⟩
  have HC3 := Lib.hid (order2_8 g s tl d n cap x1 x2 v2 w2 hs2 hk2 hgs HN.out hc (by omega) (by omega) hN (by omega))
  have HO2 := Lib.hid (HO1.out.trans ho2)
  clear hk2 hs2 ho2 HC2 HO1
  go_wp2_with fail
  refine HC3.out.mono ?_
  rintro e w3 ⟨x3, y3, v3, hxy3, hv3, rfl, hk3, hs3, ho3⟩
  have HK3 := Lib.hid hk3
  have HS3 := Lib.hid hs3
  have HO3 := Lib.hid (HO2.out.trans ho3)
  clear hk3 hs3 ho3 HC3 HO2
  go_wp2_with fail
  go_ret
  exact ⟨y3, v3, by omega, by omega, rfl, HK3.out, HS3.out, HO3.out⟩

/-- A place between a and b, and a hint; the block is as it was. -/
def PivPost (g : Nat) (tl : List Value) (d : Array UInt8) (a b : Nat) (w : World) (e : Ending) (w' : World) : Prop :=
  ∃ p q : Nat, a ≤ p ∧ p < b ∧ q ≤ 2 ∧ e = .returned (.tuple #[.int .i64 p, .int .i64 q]) ∧ SB g tl d w' ∧ On g w w'
theorem on_new {g s : Nat} {w w1 w2 : World} (h : On g w w1) (k : On s w1 w2) (hs : w.heap.size ≤ s) : On g w w2 :=
  ⟨k.os.trans h.os, k.tape.trans h.tape, k.output.trans h.output, Nat.le_trans h.size k.size, fun i hi hn => (k.block i (Nat.lt_of_lt_of_le hi h.size) (by simp; omega)).trans (h.block i hi hn)⟩

set_option maxRecDepth 20000 in
set_option maxHeartbeats 2000000 in
theorem pivot8 (g : Nat) (tl : List Value) (d : Array UInt8) (n cap a b : Nat) (w : World) (h : SB g tl d w) (hn : d.size = n) (hc : n ≤ cap) (hb : b ≤ n) (hN : n ≤ 1000) (hpos : a + 8 ≤ b) (hlen : b - a < 50) :
    Calls Tryd.prog 85 #[.slice (some ⟨g, 0, none⟩) n cap, .int .i64 a, .int .i64 b] w (PivPost g tl d a b w) := by
  have hgl := lt_of_block h
  obtain ⟨l, hl⟩ : ∃ l, l = b - a := ⟨_, rfl⟩
  have hbl : (b : Int) - (a : Int) ≤ (l : Int) := by omega
  have hbl2 : (l : Int) ≤ (b : Int) - (a : Int) := by omega
  have hd8 : decide ((b : Int) - (a : Int) ≥ 8) = true := decide_eq_true (by omega)
  have hd50 : decide ((b : Int) - (a : Int) ≥ 50) = false := decide_eq_false (by omega)
  obtain ⟨wa, hwa⟩ : ∃ wa, wa = w.alloc (.cells #[.int .i64 0] 3) := ⟨_, rfl⟩
  have HSA : Hid (SB g tl d wa) := by rw [hwa]; exact h.alloc _
  have HKA : Hid (Cnt w.heap.size 0 wa) := by rw [hwa]; exact heap_alloc_new w _
  have HOA : Hid (On g w wa) := by rw [hwa]; exact (On.refl _ _).alloc _
  have HC := Lib.hid (median8 g w.heap.size tl d n cap (a + l / 4 * 1) (a + l / 4 * 2) (a + l / 4 * 3) 0 wa HSA.out HKA.out (by omega) hn hc (by omega) (by omega) (by omega) hN (by omega))
  have i1 : (((a + l / 4 * 1 : Nat)) : Int) = (a : Int) + ((b : Int) - (a : Int)) / 4 := by omega
  have i2 : (((a + l / 4 * 2 : Nat)) : Int) = (a : Int) + ((b : Int) - (a : Int)) / 4 * 2 := by omega
  have i3 : (((a + l / 4 * 3 : Nat)) : Int) = (a : Int) + ((b : Int) - (a : Int)) / 4 * 3 := by omega
  rw [i1, i2, i3] at HC
  have HWA := Lib.hid hwa
  clear h hn hl hwa i1 i2 i3
  go_enter Tryd.func85, Tryd.ntmps85
  go_wp2_with fail
  rw [← HWA.out]
  with_reducible refine HC.out.mono ?_
  rintro e w1 ⟨x, v1, hx, hv1, rfl, hk1, hs1, ho1⟩
  have ck := hk1.cell
  have HS1 := Lib.hid hs1
  have HO1 := Lib.hid (on_new HOA.out ho1 (Nat.le_refl _))
  clear hk1 hs1 ho1 HC HWA HSA HKA HOA
  by_cases h0 : v1 = 0
  · subst h0
    go_wp2_with fail
    go_ret2
    exact ⟨x, 1, by omega, by omega, by omega, rfl, HS1.out, HO1.out⟩
  · have q0 : ((v1 : Int) == 0) = false := by simp; omega
    have q1 : ((v1 : Int) == 12) = false := by simp; omega
    go_wp2_with fail
    go_ret2
    exact ⟨x, 0, by omega, by omega, by omega, rfl, HS1.out, HO1.out⟩

end Go.Proofs.YtnnojeoehomadaaDoor
