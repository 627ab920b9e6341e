/- Texts of one claim, joined in their order. -/
import Derived.Deep.RegionHeld3
import Derived.Laws.OwnMore
import Derived.Test.YtngldlconipnnaaGreatDoorM1

/- Plain mathematics of recipes: ops, one step, a run, what is read, digests, texts; no program. -/
namespace Go.Proofs.YtngldlconipnnaaGreatDoor
namespace Pth

/-- An op: its kind, its number, its text. -/
abbrev OpT := Int × Int × List UInt8

def opOk (ins : Int) (o : OpT) : Bool :=
  if o.1 = 1 then decide (0 ≤ o.2.1) && decide (o.2.1 ≤ ins - 1) && decide (o.2.2 = [])
  else if o.1 = 2 then decide (o.2.1 = 0) && decide (o.2.2.length ≤ 10)
  else if o.1 = 5 then decide (0 ≤ o.2.1) && decide (o.2.1 ≤ 40) && decide (o.2.2 = [])
  else if o.1 = 3 ∨ o.1 = 4 ∨ o.1 = 6 ∨ o.1 = 7 then decide (o.2.1 = 0) && decide (o.2.2 = [])
  else false
def goodR (r : List OpT) (ins : Int) : Bool := decide (0 ≤ ins) && decide (ins ≤ 10) && decide (r.length ≤ 8) && r.all (opOk ins)
def textsL (l : List (List UInt8)) : Bool := l.all (fun x => decide (x.length ≤ 40)) && decide (l.length ≤ 10)

theorem goodR_iff {r : List OpT} {ins : Int} : goodR r ins = true ↔ 0 ≤ ins ∧ ins ≤ 10 ∧ r.length ≤ 8 ∧ r.all (opOk ins) = true := by
  simp only [goodR, Bool.and_eq_true, decide_eq_true_eq, and_assoc]
theorem goodR_ins {r : List OpT} {ins : Int} (h : ¬ (0 ≤ ins ∧ ins ≤ 10)) : goodR r ins = false := by
  rcases hg : goodR r ins with _ | _
  · rfl
  · exact absurd ⟨(goodR_iff.1 hg).1, (goodR_iff.1 hg).2.1⟩ h
theorem goodR_long {r : List OpT} {ins : Int} (h : 8 < r.length) : goodR r ins = false := by
  rcases hg : goodR r ins with _ | _
  · rfl
  · have := (goodR_iff.1 hg).2.2.1; omega
theorem goodR_bad {r : List OpT} {ins : Int} {k : Nat} (hk : k < r.length) (h : opOk ins r[k] = false) : goodR r ins = false := by
  rcases hg : goodR r ins with _ | _
  · rfl
  · have := List.all_eq_true.1 (goodR_iff.1 hg).2.2.2 _ (List.getElem_mem hk)
    rw [h] at this; cases this
theorem goodR_end {r : List OpT} {ins : Int} {k : Nat} (h0 : 0 ≤ ins) (h1 : ins ≤ 10) (h2 : r.length ≤ 8) (hk : r.length ≤ k) (h : (r.take k).all (opOk ins) = true) : goodR r ins = true := by
  rw [List.take_of_length_le hk] at h
  exact goodR_iff.2 ⟨h0, h1, h2, h⟩
theorem all_next {α : Type} {p : α → Bool} {l : List α} {k : Nat} (hk : k < l.length) (h0 : (l.take k).all p = true) (h : p l[k] = true) : (l.take (k + 1)).all p = true := by
  rw [List.take_succ_eq_append_getElem hk, List.all_append, h0]; simp [h]
theorem all_bad {α : Type} {p : α → Bool} {l : List α} {k : Nat} (hk : k < l.length) (h : p l[k] = false) : l.all p = false := by
  rw [List.all_eq_false]; exact ⟨l[k], List.getElem_mem hk, by simp [h]⟩
theorem all_end {α : Type} {p : α → Bool} {l : List α} {k : Nat} (hk : l.length ≤ k) (h : (l.take k).all p = true) : l.all p = true := by
  rwa [List.take_of_length_le hk] at h

/-- One op's kinds. -/
theorem opOk_cat {ins n : Int} {t : List UInt8} : opOk ins (1, n, t) = (decide (0 ≤ n) && decide (n ≤ ins - 1) && decide (t = [])) := by simp [opOk]
theorem opOk_text {ins n : Int} {t : List UInt8} : opOk ins (2, n, t) = (decide (n = 0) && decide (t.length ≤ 10)) := by simp [opOk]
theorem opOk_drop {ins n : Int} {t : List UInt8} : opOk ins (5, n, t) = (decide (0 ≤ n) && decide (n ≤ 40) && decide (t = [])) := by simp [opOk]
theorem opOk_bare {ins k n : Int} {t : List UInt8} (hk : k = 3 ∨ k = 4 ∨ k = 6 ∨ k = 7) : opOk ins (k, n, t) = (decide (n = 0) && decide (t = [])) := by
  rcases hk with rfl | rfl | rfl | rfl <;> simp [opOk]
theorem opOk_none {ins k n : Int} {t : List UInt8} (h1 : k ≠ 1) (h2 : k ≠ 2) (h3 : k ≠ 3) (h4 : k ≠ 4) (h5 : k ≠ 5) (h6 : k ≠ 6) (h7 : k ≠ 7) : opOk ins (k, n, t) = false := by
  simp [opOk, h1, h2, h3, h4, h5, h6, h7]
/-- What a good op is. -/
theorem opOk_cases {ins : Int} {o : OpT} (h : opOk ins o = true) :
    (∃ n : Nat, o = (1, (n : Int), []) ∧ (n : Int) ≤ ins - 1) ∨ (∃ t : List UInt8, o = (2, 0, t) ∧ t.length ≤ 10) ∨ o = (3, 0, []) ∨ o = (4, 0, []) ∨ (∃ n : Nat, o = (5, (n : Int), []) ∧ n ≤ 40) ∨ o = (6, 0, []) ∨ o = (7, 0, []) := by
  obtain ⟨k, n, t⟩ := o
  by_cases h1 : k = 1
  · subst h1
    simp only [opOk_cat, Bool.and_eq_true, decide_eq_true_eq] at h
    obtain ⟨⟨ha, hb⟩, rfl⟩ := h
    exact .inl ⟨n.toNat, by rw [show (n.toNat : Int) = n by omega], by omega⟩
  by_cases h2 : k = 2
  · subst h2
    simp only [opOk_text, Bool.and_eq_true, decide_eq_true_eq] at h
    obtain ⟨rfl, hb⟩ := h
    exact .inr (.inl ⟨t, rfl, hb⟩)
  by_cases h5 : k = 5
  · subst h5
    simp only [opOk_drop, Bool.and_eq_true, decide_eq_true_eq] at h
    obtain ⟨⟨ha, hb⟩, rfl⟩ := h
    exact .inr (.inr (.inr (.inr (.inl ⟨n.toNat, by rw [show (n.toNat : Int) = n by omega], by omega⟩))))
  by_cases h3 : k = 3 ∨ k = 4 ∨ k = 6 ∨ k = 7
  · rw [opOk_bare h3] at h
    simp only [Bool.and_eq_true, decide_eq_true_eq] at h
    obtain ⟨rfl, rfl⟩ := h
    rcases h3 with rfl | rfl | rfl | rfl <;> simp
  · have h3' : k ≠ 3 ∧ k ≠ 4 ∧ k ≠ 6 ∧ k ≠ 7 := by omega
    rw [opOk_none h1 h2 h3'.1 h3'.2.1 h5 h3'.2.2.1 h3'.2.2.2] at h
    cases h

def upB (c : UInt8) : UInt8 := if 97 ≤ c.toNat ∧ c.toNat ≤ 122 then c - 32 else c
def upT (l : List UInt8) : List UInt8 := l.map upB
def sortT (l : List UInt8) : List UInt8 := l.mergeSort (fun a b => decide (a ≤ b))
def Sorted8 (l : List UInt8) : Prop := l.Pairwise (· ≤ ·)
theorem sortT_perm (l : List UInt8) : (sortT l).Perm l := List.mergeSort_perm _ _
theorem le8_total (a b : UInt8) : a ≤ b ∨ b ≤ a := by
  simp only [UInt8.le_iff_toNat_le]; omega
theorem le8_trans {a b c : UInt8} (h : a ≤ b) (k : b ≤ c) : a ≤ c := by
  simp only [UInt8.le_iff_toNat_le] at *; omega
theorem sortT_sorted (l : List UInt8) : Sorted8 (sortT l) := by
  have := List.pairwise_mergeSort (le := fun a b : UInt8 => decide (a ≤ b)) (fun a b c h1 h2 => by simp only [decide_eq_true_eq] at *; exact le8_trans h1 h2) (fun a b => by simpa using le8_total a b) l
  exact this.imp (fun h => by simpa using h)
theorem sort_unique {a b : List UInt8} (hp : a.Perm b) (ha : Sorted8 a) (hb : Sorted8 b) : a = b :=
  hp.eq_of_pairwise (le := fun a b : UInt8 => a ≤ b) (fun a b _ _ h1 h2 => by
    apply UInt8.toNat.inj
    simp only [UInt8.le_iff_toNat_le] at h1 h2
    omega) ha hb
theorem sortT_is {a l : List UInt8} (hp : a.Perm l) (ha : Sorted8 a) : a = sortT l := sort_unique (hp.trans (sortT_perm l).symm) ha (sortT_sorted l)
theorem sortT_len (l : List UInt8) : (sortT l).length = l.length := (sortT_perm l).length_eq
theorem upT_len (l : List UInt8) : (upT l).length = l.length := by simp [upT]

def digB (n : Nat) : UInt8 := UInt8.ofNat (48 + n)
/-- A number below 100 as text. -/
def numT (n : Nat) : List UInt8 := if n < 10 then [digB n] else [digB (n / 10), digB (n % 10)]
theorem numT_len (n : Nat) : (numT n).length ≤ 2 := by unfold numT; split <;> simp

/-- What an op makes of a text, however long that is; none where it fails. -/
def rawT (o : OpT) (ins : List (List UInt8)) (acc : List UInt8) : Option (List UInt8) :=
  if o.1 = 1 then some (acc ++ (ins[o.2.1.toNat]?).getD [])
  else if o.1 = 2 then some (acc ++ o.2.2)
  else if o.1 = 3 then some (upT acc)
  else if o.1 = 4 then some (sortT acc)
  else if o.1 = 5 then some (acc.drop o.2.1.toNat)
  else if o.1 = 6 then some (numT acc.length)
  else none
def capT (x : List UInt8) : Option (List UInt8) := if x.length ≤ 40 then some x else none
def stepT (o : OpT) (ins : List (List UInt8)) (acc : List UInt8) : Option (List UInt8) := (rawT o ins acc).bind capT
def runT (ins : List (List UInt8)) : List OpT → List UInt8 → Option (List UInt8)
  | [], acc => some acc
  | o :: t, acc => (stepT o ins acc).bind (runT ins t)
theorem capT_some {x y : List UInt8} (h : capT x = some y) : y = x ∧ x.length ≤ 40 := by
  unfold capT at h
  split at h
  · simp only [Option.some.injEq] at h; exact ⟨h.symm, by assumption⟩
  · cases h
theorem stepT_len {o : OpT} {ins : List (List UInt8)} {acc y : List UInt8} (h : stepT o ins acc = some y) : y.length ≤ 40 := by
  unfold stepT at h
  rcases hr : rawT o ins acc with _ | x
  · rw [hr] at h; cases h
  · rw [hr] at h
    obtain ⟨rfl, hl⟩ := capT_some h
    exact hl
theorem run_step {ins : List (List UInt8)} {r : List OpT} {k : Nat} (hk : k < r.length) (acc : List UInt8) : runT ins (r.drop k) acc = (stepT r[k] ins acc).bind (runT ins (r.drop (k + 1))) := by
  rw [List.drop_eq_getElem_cons hk]; rfl
theorem runT_len {ins : List (List UInt8)} {r : List OpT} {acc y : List UInt8} (ha : acc.length ≤ 40) (h : runT ins r acc = some y) : y.length ≤ 40 := by
  induction r generalizing acc with
  | nil => simp only [runT, Option.some.injEq] at h; subst h; exact ha
  | cons o t ih =>
    simp only [runT] at h
    rcases hs : stepT o ins acc with _ | x
    · rw [hs] at h; cases h
    · rw [hs] at h
      exact ih (stepT_len hs) h
/-- The text behind, empty where it failed. -/
def txtO (x : Option (List UInt8)) : List UInt8 := x.getD []

/-- StepRecipe, RunRecipe: as told. -/
def stepOk (o : OpT) (ins : List (List UInt8)) (acc : List UInt8) : Bool := textsL ins && opOk ins.length o && decide (acc.length ≤ 40)
def runOk (r : List OpT) (ins : List (List UInt8)) : Bool := textsL ins && goodR r ins.length
def stepA (o : OpT) (ins : List (List UInt8)) (acc : List UInt8) : Option (List UInt8) := if stepOk o ins acc then stepT o ins acc else none
def runA (r : List OpT) (ins : List (List UInt8)) : Option (List UInt8) := if runOk r ins then runT ins r [] else none

/-- What is read. -/
def read1 (out : List Int) (o : OpT) : List Int := if o.1 = 1 then putL out o.2.1 else out
def readsL (r : List OpT) : List Int := r.foldl read1 []
def readsA (r : List OpT) : List Int := if goodR r 10 then readsL r else []
def catsL (r : List OpT) : List Int := r.filterMap (fun o => if o.1 = 1 then some o.2.1 else none)
theorem reads_fold_rise (r : List OpT) {out : List Int} (h : Rise out) : Rise (r.foldl read1 out) := by
  induction r generalizing out with
  | nil => exact h
  | cons o t ih =>
    refine ih ?_
    unfold read1
    split
    · exact put_rise h
    · exact h
theorem reads_rise (r : List OpT) : Rise (readsL r) := reads_fold_rise r .nil
theorem reads_fold_mem (r : List OpT) {out : List Int} {x : Int} : x ∈ r.foldl read1 out ↔ x ∈ out ∨ x ∈ catsL r := by
  induction r generalizing out with
  | nil => simp [catsL]
  | cons o t ih =>
    rw [List.foldl_cons, ih]
    unfold read1 catsL
    by_cases h : o.1 = 1
    · simp only [if_pos h, mem_put, List.filterMap_cons, List.mem_cons]
      constructor
      · rintro ((h | h) | h)
        · exact .inr (.inl h)
        · exact .inl h
        · exact .inr (.inr h)
      · rintro (h | (h | h))
        · exact .inl (.inr h)
        · exact .inl (.inl h)
        · exact .inr h
    · simp only [if_neg h, List.filterMap_cons]
theorem mem_reads {r : List OpT} {x : Int} : x ∈ readsL r ↔ x ∈ catsL r := by
  rw [readsL, reads_fold_mem]; simp
theorem reads_is {r : List OpT} {l : List Int} (hr : Rise l) (h : ∀ x, x ∈ l ↔ x ∈ catsL r) : l = readsL r :=
  rise_ext hr (reads_rise r) (fun x => (h x).trans mem_reads.symm)
theorem reads_next {r : List OpT} {k : Nat} (hk : k < r.length) : (r.take (k + 1)).foldl read1 [] = read1 ((r.take k).foldl read1 []) r[k] := by
  rw [List.take_succ_eq_append_getElem hk, List.foldl_append]; rfl
theorem cats_next {r : List OpT} {k : Nat} (hk : k < r.length) : catsL (r.take (k + 1)) = catsL (r.take k) ++ (if r[k].1 = 1 then [r[k].2.1] else []) := by
  rw [List.take_succ_eq_append_getElem hk]
  unfold catsL
  rw [List.filterMap_append]
  by_cases h : r[k].1 = 1 <;> simp [h]
theorem cats_len (r : List OpT) : (catsL r).length ≤ r.length := List.length_filterMap_le _ _

/-- Digests. -/
def dig1 (d : Int) (c : UInt8) : Int := (31 * d + (c.toNat : Int)) % 1000003
def digL (s : List UInt8) : Int := s.foldl dig1 7
def digA (s : List UInt8) : Int := if s.length ≤ 100 then digL s else 0
theorem dig_bound (s : List UInt8) : 0 ≤ digL s ∧ digL s < 1000003 := by
  have : ∀ (l : List UInt8) (d : Int), 0 ≤ d ∧ d < 1000003 → 0 ≤ l.foldl dig1 d ∧ l.foldl dig1 d < 1000003 := by
    intro l
    induction l with
    | nil => exact fun d h => h
    | cons c t ih => exact fun d _ => ih _ (by unfold dig1; omega)
  exact this s 7 (by omega)
theorem dig_next {s : List UInt8} {k : Nat} (hk : k < s.length) : digL (s.take (k + 1)) = (31 * digL (s.take k) + (s[k].toNat : Int)) % 1000003 := by
  rw [digL, List.take_succ_eq_append_getElem hk, List.foldl_append]; rfl

/-- A recipe as text. -/
def byteI (x : Int) : UInt8 := UInt8.ofNat x.toNat
def text1 (o : OpT) : List UInt8 := [byteI o.1, byteI o.2.1, byteI (o.2.2.length : Int)] ++ o.2.2
def textR (r : List OpT) : List UInt8 := r.flatMap text1
def textA (r : List OpT) : List UInt8 := if goodR r 10 then textR r else []
theorem text_next {r : List OpT} {k : Nat} (hk : k < r.length) : textR (r.take (k + 1)) = textR (r.take k) ++ text1 r[k] := by
  rw [textR, List.take_succ_eq_append_getElem hk, List.flatMap_append]; simp [textR]
theorem byteI_inj {x y : Int} (hx : 0 ≤ x ∧ x ≤ 255) (hy : 0 ≤ y ∧ y ≤ 255) (h : byteI x = byteI y) : x = y := by
  have := congrArg UInt8.toNat h
  simp only [byteI, UInt8.toNat_ofNat'] at this
  omega
def Small1 (o : OpT) : Prop := (1 ≤ o.1 ∧ o.1 ≤ 7) ∧ (0 ≤ o.2.1 ∧ o.2.1 ≤ 40) ∧ o.2.2.length ≤ 10
theorem small_of {ins : Int} {o : OpT} (hi : ins ≤ 10) (h : opOk ins o = true) : Small1 o := by
  unfold Small1
  rcases opOk_cases h with ⟨n, rfl, hn⟩ | ⟨t, rfl, ht⟩ | rfl | rfl | ⟨n, rfl, hn⟩ | rfl | rfl <;> simp <;> omega
theorem text1_inj {a b : OpT} {x y : List UInt8} (ha : Small1 a) (hb : Small1 b) (h : text1 a ++ x = text1 b ++ y) : a = b ∧ x = y := by
  obtain ⟨k, n, t⟩ := a
  obtain ⟨k', n', t'⟩ := b
  simp only [Small1] at ha hb
  simp only [text1, List.cons_append, List.nil_append, List.cons.injEq] at h
  obtain ⟨h1, h2, h3, h4⟩ := h
  have e1 := byteI_inj (by omega) (by omega) h1
  have e2 := byteI_inj (by omega) (by omega) h2
  have e3 : t.length = t'.length := by have := byteI_inj (by omega) (by omega) h3; omega
  obtain ⟨e4, e5⟩ := List.append_inj h4 e3
  exact ⟨by rw [e1, e2, e4], e5⟩
theorem textR_inj : ∀ {r q : List OpT}, (∀ o ∈ r, Small1 o) → (∀ o ∈ q, Small1 o) → textR r = textR q → r = q
  | [], [], _, _, _ => rfl
  | [], b :: q, _, _, h => by simp [textR, text1] at h
  | a :: r, [], _, _, h => by simp [textR, text1] at h
  | a :: r, b :: q, hr, hq, h => by
    simp only [textR, List.flatMap_cons] at h
    obtain ⟨e1, e2⟩ := text1_inj (hr a (by simp)) (hq b (by simp)) h
    have := textR_inj (r := r) (q := q) (fun o ho => hr o (by simp [ho])) (fun o ho => hq o (by simp [ho])) e2
    rw [e1, this]
theorem good_small {r : List OpT} {ins : Int} (h : goodR r ins = true) : ∀ o ∈ r, Small1 o := fun o ho =>
  small_of (goodR_iff.1 h).2.1 (List.all_eq_true.1 (goodR_iff.1 h).2.2.2 o ho)
theorem text_same {r q : List OpT} (hr : goodR r 10 = true) (hq : goodR q 10 = true) : decide (r = q) = decide (textA q = textA r) := by
  rw [textA, textA, if_pos hr, if_pos hq]
  by_cases h : r = q
  · subst h; simp
  · rw [decide_eq_false h, decide_eq_false]
    exact fun e => h (textR_inj (good_small hr) (good_small hq) e.symm)
theorem text1_len {o : OpT} (h : Small1 o) : (text1 o).length ≤ 13 := by
  simp [text1]; exact h.2.2
theorem textR_len {r : List OpT} (h : ∀ o ∈ r, Small1 o) : (textR r).length ≤ 13 * r.length := by
  induction r with
  | nil => simp [textR]
  | cons o t ih =>
    have h1 := text1_len (h o (by simp))
    have h2 := ih (fun o ho => h o (by simp [ho]))
    simp only [textR, List.flatMap_cons, List.length_append, List.length_cons] at h2 ⊢
    omega

/-- What two lists have alike for a recipe. -/
def sameL (r : List OpT) (a b : List (List UInt8)) : Bool := r.all (fun o => decide (o.1 = 1 → (a[o.2.1.toNat]?).getD [] = (b[o.2.1.toNat]?).getD []))
theorem raw_same {o : OpT} {a b : List (List UInt8)} (h : o.1 = 1 → (a[o.2.1.toNat]?).getD [] = (b[o.2.1.toNat]?).getD []) (acc : List UInt8) : rawT o a acc = rawT o b acc := by
  unfold rawT
  by_cases h1 : o.1 = 1
  · rw [if_pos h1, if_pos h1, h h1]
  · rw [if_neg h1, if_neg h1]
theorem run_same {r : List OpT} {a b : List (List UInt8)} (h : sameL r a b = true) (acc : List UInt8) : runT a r acc = runT b r acc := by
  induction r generalizing acc with
  | nil => rfl
  | cons o t ih =>
    simp only [sameL, List.all_cons, Bool.and_eq_true, decide_eq_true_eq] at h
    simp only [runT, stepT, raw_same h.1]
    exact congrArg _ (funext fun x => ih h.2 x)

end Pth
end Go.Proofs.YtngldlconipnnaaGreatDoor

/- Ops as cells; lists of ops, wherever they lie. -/
namespace Go.Proofs.YtngldlconipnnaaGreatDoor
open Go.RowKit Pth

def opC (o : OpT) : List Value := [.int .i64 o.1, .int .i64 o.2.1, .string ⟨o.2.2.toArray⟩]
def opV (o : OpT) : Value := .agg #[.int .i64 o.1, .int .i64 o.2.1, .string ⟨o.2.2.toArray⟩]
def OC (l : List OpT) : List Value := l.flatMap opC
theorem OC_cons (f : OpT) (l : List OpT) : OC (f :: l) = .int .i64 f.1 :: .int .i64 f.2.1 :: .string ⟨f.2.2.toArray⟩ :: OC l := rfl
theorem OC_len (l : List OpT) : (OC l).length = l.length * 3 := by
  induction l with
  | nil => rfl
  | cons f t ih => rw [OC_cons]; simp only [List.length_cons]; omega
theorem OC_append (a b : List OpT) : OC (a ++ b) = OC a ++ OC b := by simp [OC]
theorem OC_one (l : List OpT) : ∀ u ∈ OC l, u.oneCell' = true := by
  intro u hu
  simp only [OC, List.mem_flatMap, opC, List.mem_cons, List.not_mem_nil, or_false] at hu
  obtain ⟨f, _, h | h | h⟩ := hu <;> (rw [h]; rfl)
theorem OC_drop (l : List OpT) (k : Nat) : (OC l).drop (k * 3) = OC (l.drop k) := by
  by_cases hk : k ≤ l.length
  · have e : OC l = OC (l.take k) ++ OC (l.drop k) := by rw [← OC_append, List.take_append_drop]
    have hl : (OC (l.take k)).length = k * 3 := by rw [OC_len, List.length_take]; omega
    rw [e, ← hl, List.drop_left]
  · rw [List.drop_of_length_le (by rw [OC_len]; omega), List.drop_of_length_le (by omega)]; rfl
theorem OC_at {l : List OpT} {k : Nat} (hk : k < l.length) :
    (OC l)[k * 3]? = some (.int .i64 l[k].1) ∧ (OC l)[k * 3 + 1]? = some (.int .i64 l[k].2.1) ∧ (OC l)[k * 3 + 2]? = some (.string ⟨(l[k]).2.2.toArray⟩) := by
  have h1 : (OC l).drop (k * 3) = OC (l.drop k) := OC_drop l k
  rw [List.drop_eq_getElem_cons hk] at h1
  have g : ∀ j : Nat, ((OC l).drop (k * 3))[j]? = (OC (l[k] :: l.drop (k + 1)))[j]? := fun j => by rw [h1]
  refine ⟨?_, ?_, ?_⟩
  · have := g 0; rw [List.getElem?_drop] at this; exact this
  · have := g 1; rw [List.getElem?_drop] at this; exact this
  · have := g 2; rw [List.getElem?_drop] at this; exact this

/-- A slice that reads as ops. -/
def RowO (w : World) (v : Value) (l : List OpT) : Prop := RowG 3 w v l.length (OC l)
theorem RowO.ops {w : World} {v : Value} {l : List OpT} (h : RowO w v l) :
    ∃ a c, v = .slice a l.length c ∧ l.length ≤ c ∧ c ≤ maxLen ∧ ∀ k (hk : k < l.length), ∃ g o, a = some ⟨g, o, none⟩ ∧ g < w.heap.size ∧ w.cell? ⟨g, o + k * 3, none⟩ = some (.int .i64 l[k].1) ∧ w.cell? ⟨g, o + k * 3 + 1, none⟩ = some (.int .i64 l[k].2.1) ∧ w.cell? ⟨g, o + k * 3 + 2, none⟩ = some (.string ⟨(l[k]).2.2.toArray⟩) := by
  obtain ⟨a, c, hv, h0, h1, h2, hat⟩ := h
  refine ⟨a, c, hv, h1, h2, fun k hk => ?_⟩
  obtain ⟨q0, q1, q2⟩ := OC_at hk
  obtain ⟨g, o, ha, hg, hc⟩ := hat (k * 3) (by rw [OC_len]; omega)
  obtain ⟨g', o', ha', _, hc'⟩ := hat (k * 3 + 1) (by rw [OC_len]; omega)
  obtain ⟨g'', o'', ha'', _, hc''⟩ := hat (k * 3 + 2) (by rw [OC_len]; omega)
  rw [ha] at ha' ha''
  obtain ⟨rfl, rfl⟩ := addr_inj ha'
  obtain ⟨rfl, rfl⟩ := addr_inj ha''
  rw [List.getElem?_eq_getElem (by rw [OC_len]; omega)] at q0 q1 q2
  refine ⟨g, o, ha, hg, hc.trans q0, ?_, ?_⟩
  · rw [Nat.add_assoc]; exact hc'.trans q1
  · rw [Nat.add_assoc]; exact hc''.trans q2
theorem RowO.of_own {w : World} {B e : Nat} {v : Value} {l : List OpT} (h : w.ownsRow B e 3 v l.length (OC l)) : RowO w v l := RowG.of_own h
theorem RowO.below {w w' : World} {v : Value} {l : List OpT} (h : RowO w v l) (hb : Below w.heap.size w w') : RowO w' v l := RowG.below h hb

theorem elemO : ElemG 98 189 (.agg #[.int .i64 0, .int .i64 0, .string ByteArray.empty]) 3 32 := ⟨Tryz.underlying98, by kernel_rfl, rfl, by decide, by decide⟩

end Go.Proofs.YtngldlconipnnaaGreatDoor

/- Walks: a number between two, a number put to its place (as chapter 2 has them). -/
namespace Go.Proofs.YtngldlconipnnaaGreatDoor
open Go.RowKit Pth

set_option maxHeartbeats 400000 in
theorem l1In_any (n lo hi : Int) (w : World) :
    Calls Tryz.prog 169 #[.int .i64 n, .int .i64 lo, .int .i64 hi] w fun e w' => e = .returned (.bool (decide (lo ≤ n) && decide (n ≤ hi))) ∧ w = w' := by
  go_enter Tryz.func169, Tryz.ntmps169
  go_wp2
  all_goals
    go_ret
    exact ⟨ret_bool (by rw [Bool.eq_iff_iff]; simp <;> omega), rfl⟩


theorem put_start (l : List Int) (n : Int) : putL l n = l.take 0 ++ putL (l.drop 0) n := by simp
theorem put_less {l : List Int} {n : Int} {k : Nat} (hk : k < l.length) (h : putL l n = l.take k ++ putL (l.drop k) n) (hx : l[k] < n) : putL l n = l.take (k + 1) ++ putL (l.drop (k + 1)) n := by
  rw [h, List.drop_eq_getElem_cons hk, putL, if_pos hx, List.take_succ_eq_append_getElem hk, List.append_assoc, List.singleton_append]
theorem put_there {l : List Int} {n : Int} {k : Nat} (hk : k < l.length) (h : putL l n = l.take k ++ putL (l.drop k) n) (hx : l[k] = n) : putL l n = l := by
  rw [h, List.drop_eq_getElem_cons hk, putL, if_neg (by omega), if_pos hx, ← List.drop_eq_getElem_cons hk]; simp
theorem put_new {l : List Int} {n : Int} {k : Nat} (h : putL l n = l.take k ++ putL (l.drop k) n) (hx : ∀ hk : k < l.length, n < l[k]) : putL l n = (l.take k ++ [n]) ++ l.drop k := by
  rw [h]
  by_cases hk : k < l.length
  · have := hx hk
    rw [List.drop_eq_getElem_cons hk, putL, if_neg (by omega), if_neg (by omega)]; simp
  · rw [List.drop_of_length_le (by omega)]; simp [putL]
theorem put_len (l : List Int) (n : Int) : (putL l n).length ≤ l.length + 1 := by
  induction l with
  | nil => simp [putL]
  | cons x t ih =>
    unfold putL
    split
    · simp only [List.length_cons]; omega
    · split <;> simp

theorem put_first {w : World} {B e : Nat} {v : Value} {l : List Int} (h : w.ownsRow B e 1 v ([] ++ I l).length ([] ++ I l)) : w.ownsRow B e 1 v (I l).length (I l) := h
theorem put_second {w : World} {B e : Nat} {v : Value} {l : List Int} {n : Int} (h : w.ownsRow B e 1 v (I l ++ [Value.int .i64 n]).length (I l ++ [Value.int .i64 n])) : w.ownsRow B e 1 v (I (l ++ [n])).length (I (l ++ [n])) := by
  rw [I_append]; exact h
theorem put_third {w : World} {B e : Nat} {v : Value} {l m r : List Int} (h : w.ownsRow B e 1 v (I l ++ I m).length (I l ++ I m)) (hr : r = l ++ m) : w.ownsRow B e 1 v r.length (I r) := by
  rw [← I_append, I_len] at h; rw [hr]; exact h

/-- A slice of numbers cut from k on. -/
theorem run_cutI (a : Option Addr) (n c k : Nat) (hk : k ≤ n) (_hc : n ≤ c) (W : World) :
    (Instr.slice 24 (.slice a n c) (some (.int .i64 (k : Int))) none none).run Tryz.prog W = .ok (.slice (if c = k then a else a.map (·.add (k * 1))) (n - k) (c - k)) W := by
  have h1 : (k : Int) ≤ n := by omega
  by_cases h : c = k
  · go_simp
  · go_simp

theorem cutI {w : World} {a : Option Addr} {l : List Int} {cap k : Nat} (h : RowV w (.slice a l.length cap) (I l)) (hk : k ≤ l.length) (hc : l.length ≤ cap) :
    RowV w (.slice a k cap) (I (l.take k)) ∧ ∃ A1, (∀ W, (Instr.slice 24 (.slice a l.length cap) (some (.int .i64 (k : Int))) none none).run Tryz.prog W = .ok (.slice A1 (l.length - k) (cap - k)) W) ∧ RowV w (.slice A1 (l.length - k) (cap - k)) (I (l.drop k)) := by
  have r0 : RowV w (.slice a (I l).length cap) (I l) := by rw [I_len]; exact h
  have hF := r0.front k (by rw [I_len]; omega)
  have hD := r0.back k (by rw [I_len]; omega)
  rw [I_take] at hF
  rw [I_drop, I_len] at hD
  exact ⟨hF, _, run_cutI a l.length cap k hk hc, hD⟩

/-- A list of numbers is handed back, in memory of the call's own where it was so. -/
def IntsPost (B : Nat) (l : List Int) (w : World) (e : Ending) (w' : World) : Prop :=
  ∃ v, e = .returned v ∧ w'.ownsRow B 3 1 v l.length (I l) ∧ Below w.heap.size w w'

set_option maxHeartbeats 1000000 in
theorem l1Put_any (l : List Int) (n : Int) (B : Nat) (v : Value) (w : World) (hown : w.ownsRow B 3 1 v l.length (I l)) (hB : B ≤ w.heap.size) (hl : l.length ≤ 1000) :
    Calls Tryz.prog 137 #[v, .int .i64 n] w (IntsPost B (putL l n) w) := by
  have HR := Lib.hid (RowV.of_own hown)
  have HW := Lib.hid hown
  obtain ⟨a, cap, rfl, hc1, hc2, hat⟩ := HR.out.ints
  clear hown
  unfold maxLen at hc2
  go_enter Tryz.func137, Tryz.ntmps137
  go_wp2_with fail
  go_loop [5] (fun i => ∃ k : Nat, k ≤ l.length ∧ i = .int .i64 k ∧ Hid (putL l n = l.take k ++ putL (l.drop k) n)) (fun i => l.length - (intOf i).toNat)
  case atStart => exact ⟨0, Nat.zero_le _, rfl, put_start l n⟩
  case round =>
    obtain ⟨k, hk, rfl, HO⟩ := hrel
    by_cases hlt : k < l.length
    · obtain ⟨g, o, rfl, hg, hcell⟩ := hat k hlt
      have hlt1 : decide ((k : Int) < (l.length : Int)) = true := by simp; omega
      by_cases hx : l[k] < n
      · have HP := Lib.hid (put_less hlt HO.out hx)
        have hx1 : decide (l[k] < n) = true := by simpa using hx
        generalize l[k] = x at hcell hx hx1
        clear hat HO hx
        go_wp2_with fail
        go_round
        case rel => exact ⟨k + 1, by omega, by go_num, HP⟩
        case measure => simp [intOf]; omega
      · have hx1 : decide (l[k] < n) = false := by simpa using hx
        by_cases hy : l[k] = n
        · have HP := Lib.hid (put_there hlt HO.out hy)
          have hy1 : (l[k] == n) = true := by simpa using hy
          generalize l[k] = x at hcell hx hx1 hy hy1
          clear hat HO hx hy
          go_wp2_with fail
          go_ret
          exact ⟨_, rfl, by rw [HP.out]; exact HW.out, Below.refl _ _⟩
        · have HP := Lib.hid (put_new HO.out (fun _ => by omega))
          have hy1 : (l[k] == n) = false := by simpa using hy
          generalize l[k] = x at hcell hx hx1 hy hy1
          clear hat HO hx hy
          obtain ⟨hF, A1, cut1, hD⟩ := cutI HR.out hk hc1
          have HF := Lib.hid hF
          have HD := Lib.hid hD
          clear hF hD
          go_wp2_with (at_builtin; first
            | (refine wpAppRow elemI rfl _ _ rfl w.heap.size _ [] (I (l.take k)) _ rfl (World.ownsRow_lit w #[] 0 (Nat.le_refl _) (by unfold maxLen; omega) rfl) rfl (HF.out.alloc _) (I_one _) (by rw [I_len, List.length_take, List.length_nil]; omega) (by simp) ?_
               intro v1 w1 hown1 hg1
               have HN1 := Lib.hid (put_first hown1)
               have HB1 := Lib.hid (((Below.refl _ w).alloc (Nat.le_refl _) _).trans (below_own (World.ownsRow_lit w #[] 0 (Nat.le_refl _) (by unfold maxLen; omega) rfl) hg1 (by simp)))
               clear hown1 hg1)
            | (refine wpAppOne elemI rfl _ _ rfl w.heap.size _ (I (l.take k)) rfl HN1.out _ rfl rfl rfl (by rw [I_len, List.length_take]; omega) HB1.out.size ?_
               intro v2 w2 hown2 hg2
               have HN2 := Lib.hid (put_second hown2)
               have HB2 := Lib.hid (HB1.out.trans (below_own HN1.out hg2 HB1.out.size))
               clear hown2 hg2)
            | (refine wpAppRow elemI rfl _ _ rfl w.heap.size _ (I (l.take k ++ [n])) (I (l.drop k)) _ rfl HN2.out rfl (HD.out.below HB2.out) (I_one _) (by rw [I_len, I_len, List.length_append, List.length_take, List.length_drop, List.length_singleton]; omega) HB2.out.size ?_
               intro v3 w3 hown3 hg3
               have HN3 := Lib.hid (put_third hown3 HP.out)
               have HB3 := Lib.hid (HB2.out.trans (below_own HN2.out hg3 HB2.out.size))
               clear hown3 hg3))
          go_ret
          exact ⟨_, rfl, own_base HN3.out hB, HB3.out⟩
    · have HP := Lib.hid (put_new HO.out (fun h => absurd h hlt))
      have hlt1 : decide ((k : Int) < (l.length : Int)) = false := by simp; omega
      clear hat HO
      obtain ⟨hF, A1, cut1, hD⟩ := cutI HR.out hk hc1
      have HF := Lib.hid hF
      have HD := Lib.hid hD
      clear hF hD
      go_wp2_with (at_builtin; first
        | (refine wpAppRow elemI rfl _ _ rfl w.heap.size _ [] (I (l.take k)) _ rfl (World.ownsRow_lit w #[] 0 (Nat.le_refl _) (by unfold maxLen; omega) rfl) rfl (HF.out.alloc _) (I_one _) (by rw [I_len, List.length_take, List.length_nil]; omega) (by simp) ?_
           intro v1 w1 hown1 hg1
           have HN1 := Lib.hid (put_first hown1)
           have HB1 := Lib.hid (((Below.refl _ w).alloc (Nat.le_refl _) _).trans (below_own (World.ownsRow_lit w #[] 0 (Nat.le_refl _) (by unfold maxLen; omega) rfl) hg1 (by simp)))
           clear hown1 hg1)
        | (refine wpAppOne elemI rfl _ _ rfl w.heap.size _ (I (l.take k)) rfl HN1.out _ rfl rfl rfl (by rw [I_len, List.length_take]; omega) HB1.out.size ?_
           intro v2 w2 hown2 hg2
           have HN2 := Lib.hid (put_second hown2)
           have HB2 := Lib.hid (HB1.out.trans (below_own HN1.out hg2 HB1.out.size))
           clear hown2 hg2)
        | (refine wpAppRow elemI rfl _ _ rfl w.heap.size _ (I (l.take k ++ [n])) (I (l.drop k)) _ rfl HN2.out rfl (HD.out.below HB2.out) (I_one _) (by rw [I_len, I_len, List.length_append, List.length_take, List.length_drop, List.length_singleton]; omega) HB2.out.size ?_
           intro v3 w3 hown3 hg3
           have HN3 := Lib.hid (put_third hown3 HP.out)
           have HB3 := Lib.hid (HB2.out.trans (below_own HN2.out hg3 HB2.out.size))
           clear hown3 hg3))
      go_ret
      exact ⟨_, rfl, own_base HN3.out hB, HB3.out⟩

end Go.Proofs.YtngldlconipnnaaGreatDoor

/- Walks: the laws' helpers on lists of texts, by themselves (no lists of numbers). -/
namespace Go.Proofs.YtngldlconipnnaaGreatDoor
open Go.RowKit Pth

/-- A new list of so many zeros. -/
theorem make_row {t e : TypeId} {z : Value} {bytes : Nat} (E : Elem t e z bytes) (hz : z.cells = #[z]) (n : Nat) (w : World) (hn : n ≤ 2000000) :
    ∃ w', (Instr.makeSlice t (.int .i64 (n : Int)) (.int .i64 (n : Int))).run Tryz.prog w = .ok (.slice (some ⟨w.heap.size, 0, none⟩) n n) w' ∧
      w'.ownsRow w.heap.size e 1 (.slice (some ⟨w.heap.size, 0, none⟩) n n) n (List.replicate n z) ∧ Below w.heap.size w w' := by
  obtain ⟨i0, hi, hz0, hz1, hz2⟩ := info_parts E.info
  obtain ⟨w', h1, h2, h3⟩ := run_makeSlice_full (P := Tryz.prog) w w.heap.size t e i0 z 1 E.under hi hz0 hz1 .i64 .i64 n (by omega) (by rw [hz2]; exact Nat.le_trans (Nat.mul_le_mul E.small hn) (by decide)) (by unfold maxLen; omega) (Nat.le_refl _)
  rw [hz, Nat.mul_one, toList_madeCells_one] at h2
  exact ⟨w', h1, h2, (Below.refl _ w).grown h3 (Nat.le_refl _) (fun k hk => by cases hk)⟩

theorem set_row (xs : List Value) (z : Value) (k : Nat) (hk : k < xs.length) : (xs.take k ++ List.replicate (xs.length - k) z).set k xs[k] = xs.take (k + 1) ++ List.replicate (xs.length - (k + 1)) z := by
  have e : xs.length - k = (xs.length - (k + 1)) + 1 := by omega
  rw [e, List.replicate_succ, List.set_append_right _ _ (by rw [List.length_take]; omega)]
  have e2 : k - (xs.take k).length = 0 := by rw [List.length_take]; omega
  rw [e2, List.set_cons_zero, List.take_succ_eq_append_getElem hk, List.append_assoc, List.singleton_append]

theorem get_row (xs : List Value) (z : Value) (k : Nat) (hk : k < xs.length) : (xs.take k ++ List.replicate (xs.length - k) z)[k]? = some z := by
  have hl : (xs.take k).length = k := by rw [List.length_take]; omega
  rw [List.getElem?_append_right (by omega), hl, Nat.sub_self, List.getElem?_replicate, if_pos (by omega)]

theorem only_below {w w' : World} {B g : Nat} (hg : w.grownBy w' (some g)) (h : B ≤ g) (hB : B ≤ w.heap.size) : Below B w w' :=
  (Below.refl B w).grown hg hB (fun k hk => by injection hk with hk; omega)

theorem same_next {α : Type} {a b : List α} {k : Nat} (h : a.take k = b.take k) (h1 : k < a.length) (h2 : k < b.length) (he : a[k] = b[k]) : a.take (k + 1) = b.take (k + 1) := by
  rw [List.take_succ_eq_append_getElem h1, List.take_succ_eq_append_getElem h2, h, he]

theorem same_not {α : Type} {a b : List α} {k : Nat} (h1 : k < a.length) (h2 : k < b.length) (he : ¬ a[k] = b[k]) : ¬ a = b := by
  rintro rfl; exact he rfl

theorem same_all {α : Type} {a b : List α} {k : Nat} (h : a.take k = b.take k) (h1 : a.length ≤ k) (h2 : b.length ≤ k) : a = b := by
  rw [List.take_of_length_le h1, List.take_of_length_le h2] at h; exact h

theorem grown_refl (w : World) (r : Option Nat) : w.grownBy w r := ⟨rfl, rfl, rfl, Nat.le_refl _, fun _ _ _ => rfl⟩

theorem grown_trans {a b c : World} {r : Option Nat} (h : a.grownBy b r) (k : b.grownBy c r) : a.grownBy c r :=
  ⟨k.os.trans h.os, k.tape.trans h.tape, k.output.trans h.output, Nat.le_trans h.size k.size, fun i hi hn => (k.block i (Nat.lt_of_lt_of_le hi h.size) hn).trans (h.block i hi hn)⟩

/-- The digits of a number, ahead of what is there. -/
def digs (k : Nat) (out : List UInt8) : List UInt8 := if h : k = 0 then out else digs (k / 10) (UInt8.ofNat (48 + k % 10) :: out)
termination_by k
decreasing_by omega

def markT (k : Nat) : List UInt8 := 109 :: digs k []

theorem digs_zero (out : List UInt8) : digs 0 out = out := by rw [digs]; simp

theorem digs_pos {k : Nat} (h : 0 < k) (out : List UInt8) : digs k out = digs (k / 10) (UInt8.ofNat (48 + k % 10) :: out) := by rw [digs]; simp; omega

theorem digit_int (k : Nat) : ((UInt8.ofNat (48 + k % 10)).toNat : Int) = 48 + (k : Int) % 10 := by
  have : (UInt8.ofNat (48 + k % 10)).toNat = 48 + k % 10 := by simp; omega
  rw [this]; omega

theorem cat_one (c : UInt8) (out : List UInt8) : (⟨#[c]⟩ : ByteArray) ++ ⟨out.toArray⟩ = ⟨(c :: out).toArray⟩ := by
  apply ByteArray.ext
  apply Array.ext'
  rw [ByteArray.data_append]
  simp

set_option maxHeartbeats 1000000 in
theorem markText_any (k0 : Nat) (w : World) (hk : k0 ≤ 8000000) (h1 : 1 ≤ k0) :
    Calls Tryz.prog 96 #[.int .i64 (k0 : Int)] w fun e w' => e = .returned (.string ⟨(markT k0).toArray⟩) ∧ Below w.heap.size w w' := by
  have hk0 : decide ((k0 : Int) ≤ 0) = false := by simp; omega
  have HZ : Hid (markT k0 = 109 :: digs k0 []) := rfl
  go_enter Tryz.func96, Tryz.ntmps96
  go_wp2_with fail
  go_loopw [0, 3] (fun q s wr => ∃ (k : Nat) (out : List UInt8), k ≤ 8000000 ∧ out.length + k ≤ 8000000 + 20 ∧ q = .int .i64 k ∧ s = .string ⟨out.toArray⟩ ∧ Below w.heap.size w wr ∧ Hid (digs k0 [] = digs k out)) (fun q _ _ => (intOf q).toNat)
  case atStart => exact ⟨k0, [], hk, by simp; omega, rfl, rfl, Below.refl _ _, rfl⟩
  case round =>
    obtain ⟨k, out, hk2, hol, rfl, rfl, hb, HO⟩ := hrel
    have hbs := hb.size
    have HB := Lib.hid hb
    clear hb
    by_cases hlt : 0 < k
    · have HS := Lib.hid (HO.out.trans (digs_pos hlt out))
      obtain ⟨c, hcE, hci⟩ : ∃ c : UInt8, c = UInt8.ofNat (48 + k % 10) ∧ (c.toNat : Int) = 48 + (k : Int) % 10 := ⟨_, rfl, digit_int k⟩
      have hc := run_one_byte c wr
      rw [hci] at hc
      rw [← hcE] at HS
      clear HO hcE hci
      go_wp2_with fail
      go_roundw
      case rel => exact ⟨k / 10, c :: out, by omega, by simp only [List.length_cons]; omega, by go_num, by rw [cat_one], HB.out.alloc hbs _, HS⟩
      case measure => simp [intOf]; omega
    · obtain rfl : k = 0 := by omega
      rw [digs_zero] at HO
      go_wp2_with fail
      go_ret
      exact ⟨by rw [HZ.out, HO.out, ← cat_one] <;> rfl, HB.out⟩

theorem S_get {l : List (List UInt8)} {k : Nat} (hk : k < l.length) : (S l)[k]'(by rw [S_len]; exact hk) = .string ⟨(l[k]).toArray⟩ := by simp [S]

/-- Texts in memory of the call's own. -/
def TextsPost (B : Nat) (l : List (List UInt8)) (w : World) (e : Ending) (w' : World) : Prop :=
  ∃ v, e = .returned v ∧ w'.ownsRow B 9 1 v l.length (S l) ∧ Below w.heap.size w w'

set_option maxHeartbeats 1000000 in
theorem toStringS_any (l : List (List UInt8)) (v : Value) (w : World) (hrow : RowV w v (S l)) (hl : l.length ≤ 2000000) :
    Calls Tryz.prog 26 #[v] w (TextsPost w.heap.size l w) := by
  obtain ⟨a, cap, rfl, hc1, hc2, hat⟩ := hrow.texts
  clear hrow
  unfold maxLen at hc2
  obtain ⟨w0, hmk, hown0, hb0⟩ := make_row elemS rfl l.length w hl
  have HN0 := Lib.hid hown0
  have HB0 := Lib.hid hb0
  clear hown0 hb0
  go_enter Tryz.func26, Tryz.ntmps26
  go_wp2_with fail
  clear hmk
  go_loopw [4] (fun i wr => ∃ k : Nat, k ≤ l.length ∧ i = .int .i64 k ∧ wr.ownsRow w.heap.size 9 1 (.slice (some ⟨w.heap.size, 0, none⟩) l.length l.length) l.length ((S l).take k ++ List.replicate ((S l).length - k) (.string ByteArray.empty)) ∧ Below w.heap.size w wr) (fun i _ => l.length - (intOf i).toNat)
  case atStart => exact ⟨0, Nat.zero_le _, rfl, by rw [S_len]; exact HN0.out, HB0.out⟩
  case round =>
    clear HN0 HB0
    obtain ⟨k, hk, rfl, hown, hb⟩ := hrel
    have hbs := hb.size
    by_cases hlt : k < l.length
    · obtain ⟨g, o, rfl, hg, hcell0⟩ := hat k hlt
      have hcell : wr.cell? ⟨g, o + k, none⟩ = some (.string ⟨(l[k]).toArray⟩) := by rw [hb.cell (p := ⟨g, o + k, none⟩) hg]; exact hcell0
      have hfz := hown.frozenAt k
      have hcz : wr.cell? ⟨w.heap.size, k, none⟩ = some (.string ByteArray.empty) := by rw [hown.cellAt k (by omega), get_row _ _ _ (by rw [S_len]; exact hlt)]
      have hst := hown.stored k (.string ⟨(l[k]).toArray⟩)
      have e := set_row (S l) (.string ByteArray.empty) k (by rw [S_len]; exact hlt)
      rw [S_get hlt] at e
      rw [e] at hst
      have HN1 := Lib.hid hst.1
      have HB1 := Lib.hid (hb.trans (only_below hst.2 (Nat.le_refl _) hbs))
      clear hcell0 hat hown hb hst e
      generalize l[k] = x at hcell HN1 HB1
      go_wp2_with fail
      go_roundw
      case rel => exact ⟨k + 1, by omega, by go_num, HN1.out, HB1.out⟩
      case measure => simp [intOf]; omega
    · have HN1 : Hid (wr.ownsRow w.heap.size 9 1 (.slice (some ⟨w.heap.size, 0, none⟩) l.length l.length) l.length (S l)) := by
        have e1 : (S l).take k = S l := List.take_of_length_le (by rw [S_len]; omega)
        have e2 : (S l).length - k = 0 := by rw [S_len]; omega
        rw [e1, e2, List.replicate_zero, List.append_nil] at hown
        exact hown
      have HB := Lib.hid hb
      clear hown hb hat
      go_wp2_with fail
      go_ret
      exact ⟨_, rfl, HN1.out, HB.out⟩

set_option maxHeartbeats 1000000 in
theorem eqStringS_any (l m : List (List UInt8)) (v u : Value) (w : World) (hr1 : RowV w v (S l)) (hr2 : RowV w u (S m)) (hl : l.length ≤ 2000000) :
    Calls Tryz.prog 31 #[v, u] w fun e w' => e = .returned (.bool (decide (l = m))) ∧ Below w.heap.size w w' := by
  obtain ⟨a, cap, rfl, hc1, hc2, hat⟩ := hr1.texts
  obtain ⟨a2, cap2, rfl, hc3, hc4, hat2⟩ := hr2.texts
  clear hr1 hr2
  unfold maxLen at hc2 hc4
  by_cases hlen : l.length = m.length
  · have hlen1 : ((l.length : Int) != (m.length : Int)) = false := by simp [hlen]
    go_enter Tryz.func31, Tryz.ntmps31
    go_wp2_with fail
    go_loopw [5] (fun i wr => ∃ k : Nat, k ≤ l.length ∧ i = .int .i64 k ∧ Hid (l.take k = m.take k) ∧ Below w.heap.size w wr) (fun i _ => l.length - (intOf i).toNat)
    case atStart => exact ⟨0, Nat.zero_le _, rfl, rfl, Below.refl _ _⟩
    case round =>
      obtain ⟨k, hk, rfl, HO, hb⟩ := hrel
      have HB := Lib.hid hb
      by_cases hlt : k < l.length
      · obtain ⟨g, o, rfl, hg, hcell0⟩ := hat k hlt
        obtain ⟨g2, o2, rfl, hg2, hcell02⟩ := hat2 k (by omega)
        have hcell : wr.cell? ⟨g, o + k, none⟩ = some (.string ⟨(l[k]).toArray⟩) := by rw [hb.cell (p := ⟨g, o + k, none⟩) hg]; exact hcell0
        have hcell2 : wr.cell? ⟨g2, o2 + k, none⟩ = some (.string ⟨(m[k]).toArray⟩) := by rw [hb.cell (p := ⟨g2, o2 + k, none⟩) hg2]; exact hcell02
        clear hcell0 hcell02 hat hat2 hb
        have hi1 : (k : Int) < (l.length : Int) := by omega
        have hi2 : (k : Int) < (m.length : Int) := by omega
        by_cases he : l[k] = m[k]
        · have HS := Lib.hid (same_next HO.out hlt (by omega) he)
          have he1 : (l[k] != m[k]) = false := by simp [he]
          have he2 : (l[k] == m[k]) = true := by simp [he]
          generalize l[k] = x at hcell he1 he he2
          generalize m[k] = y at hcell2 he1 he he2
          clear HO
          go_wp2_with fail
          go_quiet (fail)
          go_wp2_with fail
          go_roundw
          case rel => exact ⟨k + 1, by omega, by go_num, HS, below_drewN HB.out _⟩
          case measure => simp [intOf]; omega
        · have HS : Hid (decide (l = m) = false) := decide_eq_false (same_not hlt (by omega) he)
          have he1 : (l[k] != m[k]) = true := by simp [he]
          have he2 : (l[k] == m[k]) = false := by simp [he]
          generalize l[k] = x at hcell he1 he he2
          generalize m[k] = y at hcell2 he1 he he2
          clear HO
          go_wp2_with fail
          go_quiet (fail)
          go_wp2_with fail
          go_ret
          exact ⟨ret_bool HS.out.symm, below_drewN HB.out _⟩
      · have HS : Hid (decide (l = m) = true) := decide_eq_true (same_all HO.out (by omega) (by omega))
        clear HO hat hat2 hb
        go_wp2_with fail
        go_ret
        exact ⟨ret_bool HS.out.symm, HB.out⟩
  · have hlen1 : ((l.length : Int) != (m.length : Int)) = true := by simp; omega
    have HS : Hid (decide (l = m) = false) := decide_eq_false (fun h => hlen (by rw [h]))
    clear hat hat2
    go_enter Tryz.func31, Tryz.ntmps31
    go_wp2_with fail
    go_ret
    exact ⟨ret_bool HS.out.symm, Below.refl _ _⟩

set_option maxHeartbeats 1000000 in
theorem sameTexts_any (l m : List (List UInt8)) (v u : Value) (w : World) (hr1 : RowV w v (S l)) (hr2 : RowV w u (S m)) (hl : l.length ≤ 2000000) :
    Calls Tryz.prog 59 #[v, u] w fun e w' => e = .returned (.bool (decide (l = m))) ∧ Below w.heap.size w w' := by
  obtain ⟨a, cap, rfl, hc1, hc2, hat⟩ := hr1.texts
  obtain ⟨a2, cap2, rfl, hc3, hc4, hat2⟩ := hr2.texts
  clear hr1 hr2
  unfold maxLen at hc2 hc4
  by_cases hlen : l.length = m.length
  · have hlen1 : ((l.length : Int) != (m.length : Int)) = false := by simp [hlen]
    go_enter Tryz.func59, Tryz.ntmps59
    go_wp2_with fail
    go_loopw [13] (fun i wr => ∃ k : Nat, k ≤ l.length ∧ i = .int .i64 k ∧ Hid (l.take k = m.take k) ∧ Below w.heap.size w wr) (fun i _ => l.length - (intOf i).toNat)
    case atStart => exact ⟨0, Nat.zero_le _, rfl, rfl, Below.refl _ _⟩
    case round =>
      obtain ⟨k, hk, rfl, HO, hb⟩ := hrel
      have HB := Lib.hid hb
      by_cases hlt : k < l.length
      · obtain ⟨g, o, rfl, hg, hcell0⟩ := hat k hlt
        obtain ⟨g2, o2, rfl, hg2, hcell02⟩ := hat2 k (by omega)
        have hcell : wr.cell? ⟨g, o + k, none⟩ = some (.string ⟨(l[k]).toArray⟩) := by rw [hb.cell (p := ⟨g, o + k, none⟩) hg]; exact hcell0
        have hcell2 : wr.cell? ⟨g2, o2 + k, none⟩ = some (.string ⟨(m[k]).toArray⟩) := by rw [hb.cell (p := ⟨g2, o2 + k, none⟩) hg2]; exact hcell02
        clear hcell0 hcell02 hat hat2 hb
        have hi1 : (k : Int) < (l.length : Int) := by omega
        have hi2 : (k : Int) < (m.length : Int) := by omega
        by_cases he : l[k] = m[k]
        · have HS := Lib.hid (same_next HO.out hlt (by omega) he)
          have he1 : (l[k] != m[k]) = false := by simp [he]
          have he2 : (l[k] == m[k]) = true := by simp [he]
          generalize l[k] = x at hcell he1 he he2
          generalize m[k] = y at hcell2 he1 he he2
          clear HO
          go_wp2_with fail
          go_quiet (fail)
          go_wp2_with fail
          go_roundw
          case rel => exact ⟨k + 1, by omega, by go_num, HS, below_drewN HB.out _⟩
          case measure => simp [intOf]; omega
        · have HS : Hid (decide (l = m) = false) := decide_eq_false (same_not hlt (by omega) he)
          have he1 : (l[k] != m[k]) = true := by simp [he]
          have he2 : (l[k] == m[k]) = false := by simp [he]
          generalize l[k] = x at hcell he1 he he2
          generalize m[k] = y at hcell2 he1 he he2
          clear HO
          go_wp2_with fail
          go_quiet (fail)
          go_wp2_with fail
          go_ret
          exact ⟨ret_bool HS.out.symm, below_drewN HB.out _⟩
      · have HS : Hid (decide (l = m) = true) := decide_eq_true (same_all HO.out (by omega) (by omega))
        clear HO hat hat2 hb
        go_wp2_with fail
        go_ret
        exact ⟨ret_bool HS.out.symm, HB.out⟩
  · have hlen1 : ((l.length : Int) != (m.length : Int)) = true := by simp; omega
    have HS : Hid (decide (l = m) = false) := decide_eq_false (fun h => hlen (by rw [h]))
    clear hat hat2
    go_enter Tryz.func59, Tryz.ntmps59
    go_wp2_with fail
    go_ret
    exact ⟨ret_bool HS.out.symm, Below.refl _ _⟩

set_option maxHeartbeats 1000000 in
theorem szStringS_any (l : List (List UInt8)) (left : Nat) (v : Value) (w : World) (hrow : RowV w v (S l)) (hx : ∀ x ∈ l, x.length ≤ maxLen) (hl : left ≤ 2000000) :
    Calls Tryz.prog 22 #[v, .int .i64 (left : Int)] w fun e w' => ∃ r : Int, e = .returned (.int .i64 r) ∧ (0 ≤ r → l.length ≤ left ∧ ∀ x ∈ l, x.length ≤ left) ∧ w = w' := by
  obtain ⟨a, cap, rfl, hc1, hc2, hat⟩ := hrow.texts
  clear hrow
  unfold maxLen at hc2 hx
  by_cases hlen : l.length ≤ left
  · have hlen1 : decide ((left : Int) - (l.length : Int) < 0) = false := by simp; omega
    go_enter Tryz.func22, Tryz.ntmps22
    go_wp2_with fail
    go_loop [1, 5] (fun q i => ∃ (k : Nat) (r : Int), k ≤ l.length ∧ 0 ≤ r ∧ r ≤ left ∧ q = .int .i64 r ∧ i = .int .i64 k ∧ Hid (∀ x ∈ l.take k, x.length ≤ left)) (fun _ i => l.length - (intOf i).toNat)
    case atStart => exact ⟨0, (left : Int) - (l.length : Int), Nat.zero_le _, by omega, by omega, rfl, rfl, by simp [Hid]⟩
    case round =>
      obtain ⟨k, r, hk, hr0, hr1, rfl, rfl, HO⟩ := hrel
      by_cases hlt : k < l.length
      · obtain ⟨g, o, rfl, hg, hcell⟩ := hat k hlt
        have hxl := hx l[k] (List.getElem_mem hlt)
        by_cases hy : ((l[k]).length : Int) ≤ r
        · have HS : Hid (∀ x ∈ l.take (k + 1), x.length ≤ left) := by
            intro x hxm
            rw [List.take_succ_eq_append_getElem hlt, List.mem_append, List.mem_singleton] at hxm
            rcases hxm with h | h
            · exact HO.out x h
            · rw [h]; omega
          have hy1 : decide (r - ((l[k]).length : Int) < 0) = false := by simp; omega
          generalize l[k] = x at hcell hxl hy hy1
          clear hat HO hx
          go_wp2_with fail
          go_round
          case rel => exact ⟨k + 1, r - (x.length : Int), by omega, by omega, by omega, rfl, by go_num, HS⟩
          case measure => simp [intOf]; omega
        · have hy1 : decide (r - ((l[k]).length : Int) < 0) = true := by simp; omega
          generalize l[k] = x at hcell hxl hy hy1
          clear hat HO hx
          go_wp2_with fail
          go_ret
          exact ⟨-1, rfl, fun h => by omega, rfl⟩
      · have HS : Hid (∀ x ∈ l, x.length ≤ left) := by have := HO.out; rw [List.take_of_length_le (by omega)] at this; exact this
        clear hat HO hx
        go_wp2_with fail
        go_ret
        exact ⟨r, rfl, fun _ => by first | exact ⟨hlen, HS.out⟩ | exact HS.out, rfl⟩
  · have hlen1 : decide ((left : Int) - (l.length : Int) < 0) = true := by simp; omega
    clear hat hx
    go_enter Tryz.func22, Tryz.ntmps22
    go_wp2_with fail
    go_ret
    exact ⟨-1, rfl, fun h => by omega, rfl⟩

/-- The texts that are marks, from k on. -/
def marksT (k : Nat) (n : Nat) : List (List UInt8) := (List.range n).map (fun (i : Nat) => markT (k + i))

theorem marksT_len (k n : Nat) : (marksT k n).length = n := by simp [marksT]

theorem marksT_snoc (k n : Nat) : marksT k (n + 1) = marksT k n ++ [markT (k + n)] := by simp [marksT, List.range_succ]

theorem marksT_at (k n j : Nat) (hj : j < (marksT k n).length) : (marksT k n)[j] = markT (k + j) := by simp [marksT]

theorem markT_set (k : Nat) (l : List (List UInt8)) (j : Nat) (hj : j < l.length) : (S (marksT k j) ++ (S l).drop j).set j (.string ⟨(markT (k + j)).toArray⟩) = S (marksT k (j + 1)) ++ (S l).drop (j + 1) := by
  have hl : (S (marksT k j)).length = j := by rw [S_len, marksT_len]
  rw [List.set_append_right _ _ (by omega), hl, Nat.sub_self, List.drop_eq_getElem_cons (by rw [S_len]; exact hj), List.set_cons_zero, marksT_snoc, S_append, List.append_assoc]
  rfl

theorem markT_get (k : Nat) (l : List (List UInt8)) (j : Nat) (hj : j < l.length) : (S (marksT k j) ++ (S l).drop j)[j]? = some (.string ⟨(l[j]).toArray⟩) := by
  have hl : (S (marksT k j)).length = j := by rw [S_len, marksT_len]
  rw [List.getElem?_append_right (by omega), hl, Nat.sub_self, List.getElem?_drop, Nat.add_zero, List.getElem?_eq_getElem (by rw [S_len]; exact hj), S_get hj]

/-- The list holds the marks, and nothing but its own block has turned. -/
def MarkedT (B : Nat) (v : Value) (k : Nat) (n : Nat) (w : World) (e : Ending) (w' : World) : Prop :=
  e = .returned (.int .i64 ((k : Int) + (n : Int))) ∧ w'.ownsRow B 9 1 v n (S (marksT k n)) ∧ w.grownBy w' v.ownBlock

theorem below_grown {w w' : World} {r : Option Nat} (h : Below w.heap.size w w') : w.grownBy w' r := ⟨h.os, h.tape, h.output, h.size, fun i hi _ => h.block i hi⟩

set_option maxHeartbeats 1000000 in
theorem markStringS_any (l : List (List UInt8)) (k : Nat) (B : Nat) (v : Value) (w : World) (hown : w.ownsRow B 9 1 v l.length (S l)) (hl : l.length ≤ 2000000) (hk : k ≤ 4000000) (hk1 : 1 ≤ k) :
    Calls Tryz.prog 35 #[v, .int .i64 (k : Int)] w (MarkedT B v k l.length w) := by
  have HW := Lib.hid hown
  obtain ⟨a, cap, rfl⟩ := own_slice hown
  clear hown
  go_enter Tryz.func35, Tryz.ntmps35
  go_wp2_with fail
  go_loopw [1, 5] (fun q i wr => ∃ j : Nat, j ≤ l.length ∧ q = .int .i64 ((k : Int) + (j : Int)) ∧ i = .int .i64 j ∧ wr.ownsRow B 9 1 (.slice a l.length cap) l.length (S (marksT k j) ++ (S l).drop j) ∧ w.grownBy wr (Value.slice a l.length cap).ownBlock) (fun _ i _ => l.length - (intOf i).toNat)
  case atStart => exact ⟨0, Nat.zero_le _, by simp, rfl, HW.out, grown_refl _ _⟩
  case round =>
    clear HW
    obtain ⟨j, hj, rfl, rfl, hown, hg⟩ := hrel
    by_cases hlt : j < l.length
    · obtain ⟨g, c2, hv⟩ : ∃ g c2, (Value.slice a l.length cap) = .slice (some ⟨g, 0, none⟩) l.length c2 := by
        rcases hown.2 with ⟨_, h0⟩ | ⟨g, c2, cur, hv, _⟩
        · omega
        · exact ⟨g, c2, hv⟩
      injection hv with hv1 hv2 hv3
      subst hv1
      have hc4 : l.length ≤ cap := by
        rcases hown.2 with ⟨_, h0⟩ | ⟨g, c2, cur, hv, _, _, h5, _⟩
        · omega
        · injection hv with _ _ hv3; omega
      have C := markText_any (k + j) wr (by omega) (by omega)
      have ec : ((k + j : Nat) : Int) = (k : Int) + (j : Int) := by omega
      rw [ec] at C
      have HC := Lib.hid C
      have HN := Lib.hid hown
      have HG := Lib.hid hg
      clear hown hg C ec hv2 hv3
      go_wp2_with fail
      refine HC.out.mono ?_
      rintro e w1 ⟨rfl, hb1⟩
      have hown1 := own_below HN.out hb1
      have hfz := hown1.frozenAt j
      have hcz : w1.cell? ⟨g, j, none⟩ = some (.string ⟨(l[j]).toArray⟩) := by rw [hown1.cellAt j (by omega), markT_get k l j hlt]
      have hst := hown1.stored j (.string ⟨(markT (k + j)).toArray⟩)
      rw [markT_set k l j hlt] at hst
      have HN1 := Lib.hid hst.1
      have HG1 := Lib.hid (grown_trans (grown_trans HG.out (below_grown hb1)) hst.2)
      clear hst hown1 hb1
      generalize l[j] = x at hcz
      generalize markT (k + j) = y at HN1 HG1
      go_wp2_with fail
      go_roundw
      case rel => exact ⟨j + 1, by omega, by go_num, by go_num, HN1.out, HG1.out⟩
      case measure => simp [intOf]; omega
    · obtain rfl : j = l.length := by omega
      have e : (S l).drop l.length = [] := List.drop_of_length_le (by rw [S_len]; omega)
      rw [e, List.append_nil] at hown
      have HN := Lib.hid hown
      have HG := Lib.hid hg
      clear hown hg e
      go_wp2_with fail
      go_ret
      exact ⟨rfl, HN.out, HG.out⟩

set_option maxHeartbeats 1000000 in
theorem heldStringS_any (k n : Nat) (v : Value) (w : World) (hrow : RowV w v (S (marksT k n))) (hn : n ≤ 2000000) (hk : k ≤ 4000000) (hk1 : 1 ≤ k) :
    Calls Tryz.prog 103 #[v, .int .i64 (k : Int)] w fun e w' => e = .returned (.int .i64 ((k : Int) + (n : Int))) ∧ Below w.heap.size w w' := by
  obtain ⟨a, cap, rfl, hc1, hc2, hat⟩ := hrow.texts
  rw [marksT_len] at hc1 ⊢
  clear hrow
  unfold maxLen at hc2
  go_enter Tryz.func103, Tryz.ntmps103
  go_wp2_with fail
  go_loopw [1, 5] (fun q i wr => ∃ j : Nat, j ≤ n ∧ q = .int .i64 ((k : Int) + (j : Int)) ∧ i = .int .i64 j ∧ Below w.heap.size w wr) (fun _ i _ => n - (intOf i).toNat)
  case atStart => exact ⟨0, Nat.zero_le _, by simp, rfl, Below.refl _ _⟩
  case round =>
    obtain ⟨j, hj, rfl, rfl, hb⟩ := hrel
    by_cases hlt : j < n
    · obtain ⟨g, o, rfl, hg, hcell0⟩ := hat j (by rw [marksT_len]; exact hlt)
      rw [marksT_at] at hcell0
      have s0 : wr.cell? ⟨g, o + j, none⟩ = some (.string ⟨(markT (k + j)).toArray⟩) := by rw [hb.cell (p := ⟨g, o + j, none⟩) hg]; exact hcell0
      have hgw : g < wr.heap.size := by have := hb.size; omega
      have C := fun W => markText_any (k + j) W (by omega) (by omega)
      have ec : ((k + j : Nat) : Int) = (k : Int) + (j : Int) := by omega
      rw [ec] at C
      have HC := Lib.hid C
      have HB := Lib.hid hb
      have hj1 : (j : Int) < (n : Int) := by omega
      clear hcell0 hat hb C ec
      generalize markT (k + j) = y at s0 HC
      go_wp2_with fail
      go_region_held3 (fun w' => w'.cell? ⟨g, o + j, none⟩ = some (.string ⟨y.toArray⟩)) (first | exact s0 | exact k0)
        (first | (go_at_call 96; refine (HC.out _).mono ?_; rintro e w5 ⟨rfl, hb5⟩; have k0 := (hb5.cell (p := ⟨g, o + j, none⟩) hgw).trans s0))
      have HB5 := Lib.hid ((Below.drew HB.out).trans (hb5.mono HB.out.size))
      clear hb5 k0
      go_wp2_with fail
      go_roundw
      case rel => exact ⟨j + 1, by omega, by go_num, by go_num, HB5.out⟩
      case measure => simp [intOf]; omega
    · obtain rfl : j = n := by omega
      have HB := Lib.hid hb
      clear hat hb
      go_wp2_with fail
      go_ret
      exact ⟨rfl, HB.out⟩

end Go.Proofs.YtngldlconipnnaaGreatDoor

/- Walks: the laws' helpers on lists of numbers (beside those on texts). -/
namespace Go.Proofs.YtngldlconipnnaaGreatDoor
open Go.RowKit Pth





theorem I_get {l : List Int} {k : Nat} (hk : k < l.length) : (I l)[k]'(by rw [I_len]; exact hk) = .int .i64 l[k] := by simp [I]

set_option maxHeartbeats 1000000 in
theorem toIntS_any (l : List Int) (v : Value) (w : World) (hrow : RowV w v (I l)) (hl : l.length ≤ 2000000) :
    Calls Tryz.prog 27 #[v] w (IntsPost w.heap.size l w) := by
  obtain ⟨a, cap, rfl, hc1, hc2, hat⟩ := hrow.ints
  clear hrow
  unfold maxLen at hc2
  obtain ⟨w0, hmk, hown0, hb0⟩ := make_row elemI rfl l.length w hl
  have HN0 := Lib.hid hown0
  have HB0 := Lib.hid hb0
  clear hown0 hb0
  go_enter Tryz.func27, Tryz.ntmps27
  go_wp2_with fail
  clear hmk
  go_loopw [4] (fun i wr => ∃ k : Nat, k ≤ l.length ∧ i = .int .i64 k ∧ wr.ownsRow w.heap.size 3 1 (.slice (some ⟨w.heap.size, 0, none⟩) l.length l.length) l.length ((I l).take k ++ List.replicate ((I l).length - k) (.int .i64 0)) ∧ Below w.heap.size w wr) (fun i _ => l.length - (intOf i).toNat)
  case atStart => exact ⟨0, Nat.zero_le _, rfl, by rw [I_len]; exact HN0.out, HB0.out⟩
  case round =>
    clear HN0 HB0
    obtain ⟨k, hk, rfl, hown, hb⟩ := hrel
    have hbs := hb.size
    by_cases hlt : k < l.length
    · obtain ⟨g, o, rfl, hg, hcell0⟩ := hat k hlt
      have hcell : wr.cell? ⟨g, o + k, none⟩ = some (.int .i64 l[k]) := by rw [hb.cell (p := ⟨g, o + k, none⟩) hg]; exact hcell0
      have hfz := hown.frozenAt k
      have hcz : wr.cell? ⟨w.heap.size, k, none⟩ = some (.int .i64 0) := by rw [hown.cellAt k (by omega), get_row _ _ _ (by rw [I_len]; exact hlt)]
      have hst := hown.stored k (.int .i64 l[k])
      have e := set_row (I l) (.int .i64 0) k (by rw [I_len]; exact hlt)
      rw [I_get hlt] at e
      rw [e] at hst
      have HN1 := Lib.hid hst.1
      have HB1 := Lib.hid (hb.trans (only_below hst.2 (Nat.le_refl _) hbs))
      clear hcell0 hat hown hb hst e
      generalize l[k] = x at hcell HN1 HB1
      go_wp2_with fail
      go_roundw
      case rel => exact ⟨k + 1, by omega, by go_num, HN1.out, HB1.out⟩
      case measure => simp [intOf]; omega
    · have HN1 : Hid (wr.ownsRow w.heap.size 3 1 (.slice (some ⟨w.heap.size, 0, none⟩) l.length l.length) l.length (I l)) := by
        have e1 : (I l).take k = I l := List.take_of_length_le (by rw [I_len]; omega)
        have e2 : (I l).length - k = 0 := by rw [I_len]; omega
        rw [e1, e2, List.replicate_zero, List.append_nil] at hown
        exact hown
      have HB := Lib.hid hb
      clear hown hb hat
      go_wp2_with fail
      go_ret
      exact ⟨_, rfl, HN1.out, HB.out⟩


set_option maxHeartbeats 1000000 in
theorem eqIntS_any (l m : List Int) (v u : Value) (w : World) (hr1 : RowV w v (I l)) (hr2 : RowV w u (I m)) (hl : l.length ≤ 2000000) :
    Calls Tryz.prog 32 #[v, u] w fun e w' => e = .returned (.bool (decide (l = m))) ∧ Below w.heap.size w w' := by
  obtain ⟨a, cap, rfl, hc1, hc2, hat⟩ := hr1.ints
  obtain ⟨a2, cap2, rfl, hc3, hc4, hat2⟩ := hr2.ints
  clear hr1 hr2
  unfold maxLen at hc2 hc4
  by_cases hlen : l.length = m.length
  · have hlen1 : ((l.length : Int) != (m.length : Int)) = false := by simp [hlen]
    go_enter Tryz.func32, Tryz.ntmps32
    go_wp2_with fail
    go_loopw [5] (fun i wr => ∃ k : Nat, k ≤ l.length ∧ i = .int .i64 k ∧ Hid (l.take k = m.take k) ∧ Below w.heap.size w wr) (fun i _ => l.length - (intOf i).toNat)
    case atStart => exact ⟨0, Nat.zero_le _, rfl, rfl, Below.refl _ _⟩
    case round =>
      obtain ⟨k, hk, rfl, HO, hb⟩ := hrel
      have HB := Lib.hid hb
      by_cases hlt : k < l.length
      · obtain ⟨g, o, rfl, hg, hcell0⟩ := hat k hlt
        obtain ⟨g2, o2, rfl, hg2, hcell02⟩ := hat2 k (by omega)
        have hcell : wr.cell? ⟨g, o + k, none⟩ = some (.int .i64 l[k]) := by rw [hb.cell (p := ⟨g, o + k, none⟩) hg]; exact hcell0
        have hcell2 : wr.cell? ⟨g2, o2 + k, none⟩ = some (.int .i64 m[k]) := by rw [hb.cell (p := ⟨g2, o2 + k, none⟩) hg2]; exact hcell02
        clear hcell0 hcell02 hat hat2 hb
        have hi1 : (k : Int) < (l.length : Int) := by omega
        have hi2 : (k : Int) < (m.length : Int) := by omega
        by_cases he : l[k] = m[k]
        · have HS := Lib.hid (same_next HO.out hlt (by omega) he)
          have he1 : (l[k] != m[k]) = false := by simp [he]
          generalize l[k] = x at hcell he1 he
          generalize m[k] = y at hcell2 he1 he
          clear HO he
          go_wp2_with fail
          go_quiet (fail)
          go_wp2_with fail
          go_roundw
          case rel => exact ⟨k + 1, by omega, by go_num, HS, below_drewN HB.out _⟩
          case measure => simp [intOf]; omega
        · have HS : Hid (decide (l = m) = false) := decide_eq_false (same_not hlt (by omega) he)
          have he1 : (l[k] != m[k]) = true := by simp [he]
          generalize l[k] = x at hcell he1 he
          generalize m[k] = y at hcell2 he1 he
          clear HO he
          go_wp2_with fail
          go_quiet (fail)
          go_wp2_with fail
          go_ret
          exact ⟨ret_bool HS.out.symm, below_drewN HB.out _⟩
      · have HS : Hid (decide (l = m) = true) := decide_eq_true (same_all HO.out (by omega) (by omega))
        clear HO hat hat2 hb
        go_wp2_with fail
        go_ret
        exact ⟨ret_bool HS.out.symm, HB.out⟩
  · have hlen1 : ((l.length : Int) != (m.length : Int)) = true := by simp; omega
    have HS : Hid (decide (l = m) = false) := decide_eq_false (fun h => hlen (by rw [h]))
    clear hat hat2
    go_enter Tryz.func32, Tryz.ntmps32
    go_wp2_with fail
    go_ret
    exact ⟨ret_bool HS.out.symm, Below.refl _ _⟩

/-- The marks from k on. -/
def marks (k : Int) (n : Nat) : List Int := (List.range n).map (fun (i : Nat) => k + (i : Int))
theorem marks_len (k : Int) (n : Nat) : (marks k n).length = n := by simp [marks]
theorem marks_snoc (k : Int) (n : Nat) : marks k (n + 1) = marks k n ++ [k + (n : Int)] := by simp [marks, List.range_succ]
theorem marks_at (k : Int) (n j : Nat) (hj : j < (marks k n).length) : (marks k n)[j] = k + (j : Int) := by simp [marks]
theorem mark_set (k : Int) (l : List Int) (j : Nat) (hj : j < l.length) : (I (marks k j) ++ (I l).drop j).set j (.int .i64 (k + (j : Int))) = I (marks k (j + 1)) ++ (I l).drop (j + 1) := by
  have hl : (I (marks k j)).length = j := by rw [I_len, marks_len]
  rw [List.set_append_right _ _ (by omega), hl, Nat.sub_self, List.drop_eq_getElem_cons (by rw [I_len]; exact hj), List.set_cons_zero, marks_snoc, I_append, List.append_assoc]
  rfl
theorem mark_get (k : Int) (l : List Int) (j : Nat) (hj : j < l.length) : (I (marks k j) ++ (I l).drop j)[j]? = some (.int .i64 l[j]) := by
  have hl : (I (marks k j)).length = j := by rw [I_len, marks_len]
  rw [List.getElem?_append_right (by omega), hl, Nat.sub_self, List.getElem?_drop, Nat.add_zero, List.getElem?_eq_getElem (by rw [I_len]; exact hj), I_get hj]

/-- The list holds the marks, and nothing but its own block has turned. -/
def Marked (B : Nat) (v : Value) (k : Int) (n : Nat) (w : World) (e : Ending) (w' : World) : Prop :=
  e = .returned (.int .i64 (k + (n : Int))) ∧ w'.ownsRow B 3 1 v n (I (marks k n)) ∧ w.grownBy w' v.ownBlock


set_option maxHeartbeats 1000000 in
theorem markIntS_any (l : List Int) (k : Nat) (B : Nat) (v : Value) (w : World) (hown : w.ownsRow B 3 1 v l.length (I l)) (hl : l.length ≤ 2000000) (hk : k ≤ 2000000) :
    Calls Tryz.prog 36 #[v, .int .i64 (k : Int)] w (Marked B v k l.length w) := by
  have HW := Lib.hid hown
  obtain ⟨a, cap, rfl⟩ := own_slice hown
  clear hown
  go_enter Tryz.func36, Tryz.ntmps36
  go_wp2_with fail
  go_loopw [1, 5] (fun q i wr => ∃ j : Nat, j ≤ l.length ∧ q = .int .i64 ((k : Int) + (j : Int)) ∧ i = .int .i64 j ∧ wr.ownsRow B 3 1 (.slice a l.length cap) l.length (I (marks k j) ++ (I l).drop j) ∧ w.grownBy wr (Value.slice a l.length cap).ownBlock) (fun _ i _ => l.length - (intOf i).toNat)
  case atStart => exact ⟨0, Nat.zero_le _, by simp, rfl, HW.out, grown_refl _ _⟩
  case round =>
    clear HW
    obtain ⟨j, hj, rfl, rfl, hown, hg⟩ := hrel
    by_cases hlt : j < l.length
    · obtain ⟨g, c2, hv⟩ : ∃ g c2, (Value.slice a l.length cap) = .slice (some ⟨g, 0, none⟩) l.length c2 := by
        rcases hown.2 with ⟨_, h0⟩ | ⟨g, c2, cur, hv, _⟩
        · omega
        · exact ⟨g, c2, hv⟩
      injection hv with hv1 hv2 hv3
      subst hv1
      have hfz := hown.frozenAt j
      have hcz : wr.cell? ⟨g, j, none⟩ = some (.int .i64 l[j]) := by rw [hown.cellAt j (by omega), mark_get k l j hlt]
      have hst := hown.stored j (.int .i64 ((k : Int) + (j : Int)))
      rw [mark_set k l j hlt] at hst
      have HN1 := Lib.hid hst.1
      have HG1 := Lib.hid (grown_trans hg hst.2)
      have hc4 : l.length ≤ cap := by
        rcases hown.2 with ⟨_, h0⟩ | ⟨g, c2, cur, hv, _, _, h5, _⟩
        · omega
        · injection hv with _ _ hv3; omega
      clear hown hg hst hv2 hv3
      generalize l[j] = x at hcz
      go_wp2_with fail
      go_roundw
      case rel => exact ⟨j + 1, by omega, by go_num, by go_num, HN1.out, HG1.out⟩
      case measure => simp [intOf]; omega
    · obtain rfl : j = l.length := by omega
      have e : (I l).drop l.length = [] := List.drop_of_length_le (by rw [I_len]; omega)
      rw [e, List.append_nil] at hown
      have HN := Lib.hid hown
      have HG := Lib.hid hg
      clear hown hg e
      go_wp2_with fail
      go_ret
      exact ⟨rfl, HN.out, HG.out⟩

end Go.Proofs.YtngldlconipnnaaGreatDoor

/- Walks: the laws' helpers on ops. -/
namespace Go.Proofs.YtngldlconipnnaaGreatDoor
open Go.RowKit Pth

set_option maxHeartbeats 1000000 in
theorem szOp_any (o : OpT) (left : Nat) (w : World) (hx : o.2.2.length ≤ maxLen) (hl : left ≤ 2000000) :
    Calls Tryz.prog 175 #[opV o, .int .i64 (left : Int)] w fun e w' => ∃ r : Int, e = .returned (.int .i64 r) ∧ r ≤ left ∧ (0 ≤ r → o.2.2.length ≤ left) ∧ Below w.heap.size w w' := by
  obtain ⟨k, n, t⟩ := o
  unfold opV
  simp only at hx ⊢
  unfold maxLen at hx
  have HB := Lib.hid ((Below.refl w.heap.size w).alloc (Nat.le_refl _) (.cells #[.int .i64 k, .int .i64 n, .string ⟨t.toArray⟩] 209))
  by_cases h1 : t.length ≤ left
  · have d1 : decide ((left : Int) - (t.length : Int) < 0) = false := by simp; omega
    go_enter Tryz.func175, Tryz.ntmps175
    go_wp2_with fail
    go_ret
    exact ⟨_, rfl, by omega, fun _ => by omega, HB.out⟩
  · have d1 : decide ((left : Int) - (t.length : Int) < 0) = true := by simp; omega
    go_enter Tryz.func175, Tryz.ntmps175
    go_wp2_with fail
    go_ret
    exact ⟨-1, rfl, by omega, fun h => by omega, HB.out⟩

/-- Results that lie in a block. -/
theorem results_cellO {fn : Func} {p : Tmp} {ty : TypeId} (h : fn.results = #[.cell p ty]) {tmps : Array Value} {w : World} {ad : Addr} {v : Value} (hp : tmps.getD p undef = .pointer (some ad)) (hl : (loadVar ty ad).run Tryz.prog w = .ok v w) :
    (results fn tmps).run Tryz.prog w = .ok v w := by
  have hp' : tmps[p]?.getD undef = .pointer (some ad) := by simpa using hp
  simp only [results, h]
  simp [hp', asAddr, hl]
theorem load_op {w : World} {b : Nat} {x y z : Value} (h0 : w.cell? ⟨b, 0, none⟩ = some x) (h1 : w.cell? ⟨b, 1, none⟩ = some y) (h2 : w.cell? ⟨b, 2, none⟩ = some z) : (loadVar 189 ⟨b, 0, none⟩).run Tryz.prog w = .ok (.agg #[x, y, z]) w := by
  go_simp

set_option maxHeartbeats 1000000 in
theorem toOp_any (o : OpT) (w : World) :
    Calls Tryz.prog 176 #[opV o] w fun e w' => e = .returned (opV o) ∧ Below w.heap.size w w' := by
  obtain ⟨k, n, t⟩ := o
  unfold opV
  simp only
  go_enter Tryz.func176, Tryz.ntmps176
  go_wp2_with fail
  refine bodyPost_ret (results_cellO rfl rfl (load_op (x := .int .i64 k) (y := .int .i64 n) (z := .string ⟨t.toArray⟩) (by go_simp) (by go_simp) (by go_simp))) rfl ?_
  exact ⟨rfl, (((Below.refl w.heap.size w).alloc (Nat.le_refl _) _).alloc (by simp) _).alloc (by simp; omega) _⟩

theorem ret_dec {p : Prop} [Decidable p] {b : Bool} (h : decide p = b) : Ending.returned (.bool b) = Ending.returned (.bool (decide p)) := by rw [h]

set_option maxHeartbeats 1000000 in
theorem eqOp_b {o p : OpT} {b : Bool} (h : decide (o = p) = b) (w : World) :
    Calls Tryz.prog 182 #[opV o, opV p] w fun e w' => e = .returned (.bool b) ∧ Below w.heap.size w w' := by
  obtain ⟨k, n, t⟩ := o
  obtain ⟨k', n', t'⟩ := p
  have HT := Lib.hid h
  unfold opV
  simp only
  have HB := Lib.hid (((Below.refl w.heap.size w).alloc (Nat.le_refl _) (.cells #[.int .i64 k, .int .i64 n, .string ⟨t.toArray⟩] 189)).alloc (by simp) (.cells #[.int .i64 k', .int .i64 n', .string ⟨t'.toArray⟩] 189))
  clear h
  by_cases h1 : k = k'
  · have d1 : (k != k') = false := by simp [h1]
    by_cases h2 : n = n'
    · have d2 : (n != n') = false := by simp [h2]
      by_cases h3 : t = t'
      · have d3 : (!(t == t')) = false := by simp [h3]
        have HE : Hid (b = true) := by have := HT.out; rw [h1, h2, h3] at this; simpa [Hid] using this.symm
        clear h1 h2 h3 HT
        go_enter Tryz.func182, Tryz.ntmps182
        go_wp2_with fail
        go_ret
        exact ⟨by rw [HE.out] <;> rfl, HB.out⟩
      · have d3 : (!(t == t')) = true := by simp [h3]
        have HE : Hid (b = false) := by rw [← HT.out]; exact decide_eq_false (fun h => h3 (by injection h with _ h; injection h))
        clear h1 h2 h3 HT
        go_enter Tryz.func182, Tryz.ntmps182
        go_wp2_with fail
        go_ret
        exact ⟨by rw [HE.out] <;> rfl, HB.out⟩
    · have d2 : (n != n') = true := by simp [h2]
      have HE : Hid (b = false) := by rw [← HT.out]; exact decide_eq_false (fun h => h2 (by injection h with _ h; injection h))
      clear h1 h2 HT
      go_enter Tryz.func182, Tryz.ntmps182
      go_wp2_with fail
      go_ret
      exact ⟨by rw [HE.out] <;> rfl, HB.out⟩
  · have d1 : (k != k') = true := by simp [h1]
    have HE : Hid (b = false) := by rw [← HT.out]; exact decide_eq_false (fun h => h1 (by injection h))
    clear h1 HT
    go_enter Tryz.func182, Tryz.ntmps182
    go_wp2_with fail
    go_ret
    exact ⟨by rw [HE.out] <;> rfl, HB.out⟩

end Go.Proofs.YtngldlconipnnaaGreatDoor

/- Walks: the laws' helpers on lists of ops: how much they hold, copies, whether they are the same. -/
namespace Go.Proofs.YtngldlconipnnaaGreatDoor
open Go.RowKit Pth

def noOp : OpT := (0, 0, [])
/-- Ops are handed back, in memory of the call's own. -/
def OpsPost (l : List OpT) (w : World) (e : Ending) (w' : World) : Prop :=
  ∃ v, e = .returned v ∧ w'.ownsRow w.heap.size 189 3 v l.length (OC l) ∧ Below w.heap.size w w'
theorem OC_zero (n : Nat) : OC (List.replicate n noOp) = (madeCells #[.int .i64 0, .int .i64 0, .string ByteArray.empty] (n * 3)).toList := by
  apply List.ext_getElem?
  intro j
  by_cases hj : j < n * 3
  · have hd : j / 3 < n := by omega
    obtain ⟨q0, q1, q2⟩ := OC_at (l := List.replicate n noOp) (k := j / 3) (by simpa using hd)
    have hm : j % 3 = 0 ∨ j % 3 = 1 ∨ j % 3 = 2 := by omega
    rcases hm with h | h | h
    · rw [show j = j / 3 * 3 by omega, q0]
      simp [madeCells, noOp, hd]
    · rw [show j = j / 3 * 3 + 1 by omega, q1]
      have e : (j / 3 * 3 + 1) % 3 = 1 := by omega
      have e2 : j / 3 * 3 + 1 < n * 3 := by omega
      simp [madeCells, noOp, e, e2]
    · rw [show j = j / 3 * 3 + 2 by omega, q2]
      have e : (j / 3 * 3 + 2) % 3 = 2 := by omega
      have e2 : j / 3 * 3 + 2 < n * 3 := by omega
      simp [madeCells, noOp, e, e2]; rfl
  · rw [List.getElem?_eq_none (by rw [OC_len]; simp; omega)]
    simp [madeCells, hj]
theorem make_rowO (n : Nat) (w : World) (hn : n ≤ 2000000) :
    ∃ w', (Instr.makeSlice 98 (.int .i64 (n : Int)) (.int .i64 (n : Int))).run Tryz.prog w = .ok (.slice (some ⟨w.heap.size, 0, none⟩) n n) w' ∧
      w'.ownsRow w.heap.size 189 3 (.slice (some ⟨w.heap.size, 0, none⟩) n n) n (OC (List.replicate n noOp)) ∧ Below w.heap.size w w' := by
  obtain ⟨i0, hi, hz0, hz1, hz2⟩ := info_parts elemO.info
  obtain ⟨w', h1, h2, h3⟩ := run_makeSlice_full (P := Tryz.prog) w w.heap.size _ _ i0 _ 3 elemO.under hi hz0 hz1 .i64 .i64 n (by omega) (by rw [hz2]; exact Nat.le_trans (Nat.mul_le_mul elemO.small hn) (by decide)) (by unfold maxLen; omega) (Nat.le_refl _)
  rw [OC_zero]
  exact ⟨w', h1, h2, (Below.refl _ w).grown h3 (Nat.le_refl _) (fun k hk => by cases hk)⟩
theorem set_three (a : List OpT) (k : Nat) (ha : a.length = k) (p : OpT) (rest : List OpT) (x : OpT) :
    (((OC a ++ OC (p :: rest)).set (k * 3) (.int .i64 x.1)).set (k * 3 + 1) (.int .i64 x.2.1)).set (k * 3 + 2) (.string ⟨x.2.2.toArray⟩) = OC (a ++ [x]) ++ OC rest := by
  have hl : (OC a).length = k * 3 := by rw [OC_len, ha]
  rw [List.set_append_right _ _ (by omega), hl, Nat.sub_self, List.set_append_right _ _ (by omega), hl, show k * 3 + 1 - k * 3 = 1 by omega, List.set_append_right _ _ (by omega), hl, show k * 3 + 2 - k * 3 = 2 by omega, OC_append]
  simp [OC, opC]
theorem get_three (a : List OpT) (k : Nat) (ha : a.length = k) (p : OpT) (rest : List OpT) :
    (OC a ++ OC (p :: rest))[k * 3]? = some (.int .i64 p.1) ∧ (OC a ++ OC (p :: rest))[k * 3 + 1]? = some (.int .i64 p.2.1) ∧ (OC a ++ OC (p :: rest))[k * 3 + 2]? = some (.string ⟨p.2.2.toArray⟩) := by
  have hl : (OC a).length = k * 3 := by rw [OC_len, ha]
  rw [List.getElem?_append_right (by omega), hl, Nat.sub_self, List.getElem?_append_right (by omega), hl, show k * 3 + 1 - k * 3 = 1 by omega, List.getElem?_append_right (by omega), hl, show k * 3 + 2 - k * 3 = 2 by omega]
  exact ⟨rfl, rfl, rfl⟩

set_option maxRecDepth 20000 in
set_option maxHeartbeats 1000000 in
theorem szOpS_any (l : List OpT) (left : Nat) (v : Value) (w : World) (hrow : RowO w v l) (hx : ∀ f ∈ l, f.2.2.length ≤ maxLen) (hl : left ≤ 2000000) :
    Calls Tryz.prog 134 #[v, .int .i64 (left : Int)] w fun e w' => ∃ r : Int, e = .returned (.int .i64 r) ∧ r ≤ left ∧ (0 ≤ r → r + l.length ≤ left ∧ ∀ f ∈ l, f.2.2.length ≤ left) ∧ Below w.heap.size w w' := by
  obtain ⟨a, cap, rfl, hc1, hc2, hat⟩ := hrow.ops
  clear hrow
  unfold maxLen at hc2
  by_cases hlen : l.length ≤ left
  · have hlen1 : decide ((left : Int) - (l.length : Int) < 0) = false := by simp; omega
    go_enter Tryz.func134, Tryz.ntmps134
    go_wp2_with fail
    go_loopw [1, 5] (fun q i wr => ∃ (k r : Nat), k ≤ l.length ∧ r + l.length ≤ left ∧ q = .int .i64 r ∧ i = .int .i64 k ∧ Hid (∀ f ∈ l.take k, f.2.2.length ≤ left) ∧ Hid (Below w.heap.size w wr)) (fun _ i _ => l.length - (intOf i).toNat)
    case atStart => exact ⟨0, left - l.length, Nat.zero_le _, by omega, by go_num, rfl, by simp [Hid], Below.refl _ _⟩
    case round =>
      obtain ⟨k, r, hk, hr1, rfl, rfl, HO, HB⟩ := hrel
      by_cases hlt : k < l.length
      · obtain ⟨g, o, rfl, hg, hcell1, hcell2, hcell3⟩ := hat k hlt
        have s1 := (HB.out.cell (p := ⟨g, o + k * 3, none⟩) hg).trans hcell1
        have s2 := (HB.out.cell (p := ⟨g, o + k * 3 + 1, none⟩) hg).trans hcell2
        have s3 := (HB.out.cell (p := ⟨g, o + k * 3 + 2, none⟩) hg).trans hcell3
        have hxl := hx l[k] (List.getElem_mem hlt)
        have HC := Lib.hid (szOp_any l[k] r wr hxl (by omega))
        have HS : Hid (l[k].2.2.length ≤ left → ∀ f ∈ l.take (k + 1), f.2.2.length ≤ left) := by
          intro h1 f hf
          rw [List.take_succ_eq_append_getElem hlt, List.mem_append, List.mem_singleton] at hf
          rcases hf with h | h
          · exact HO.out f h
          · rw [h]; exact h1
        clear hcell1 hcell2 hcell3 hat HO hx hxl
        generalize l[k] = x at s1 s2 s3 HC HS
        obtain ⟨x1, x2, x3⟩ := x
        unfold opV at HC
        simp only at s1 s2 s3 HC HS
        go_wp2_with fail
        refine HC.out.mono ?_
        rintro e w1 ⟨r1, rfl, hle, hif, hb1⟩
        have HB1 := Lib.hid (HB.out.trans (hb1.mono HB.out.size))
        clear hb1 HC
        by_cases h0 : 0 ≤ r1
        · obtain ⟨r2, rfl⟩ : ∃ r2 : Nat, r1 = r2 := ⟨r1.toNat, by omega⟩
          have hd : decide ((r2 : Int) < 0) = false := decide_eq_false (by omega)
          have HS2 := Lib.hid (HS.out (by have := (hif h0); omega))
          clear HS hif
          go_wp2_with fail
          go_roundw
          case rel => exact ⟨k + 1, r2, by omega, by omega, rfl, by go_num, HS2, HB1⟩
          case measure => simp [intOf]; omega
        · have hd : decide (r1 < 0) = true := decide_eq_true (by omega)
          clear HS hif
          go_wp2_with fail
          go_ret
          exact ⟨-1, rfl, by omega, fun h => by omega, HB1.out⟩
      · have HS : Hid (∀ f ∈ l, f.2.2.length ≤ left) := by have := HO.out; rw [List.take_of_length_le (by omega)] at this; exact this
        clear hat HO hx
        go_wp2_with fail
        go_ret
        exact ⟨r, rfl, by omega, fun _ => ⟨by omega, HS.out⟩, HB.out⟩
  · have hlen1 : decide ((left : Int) - (l.length : Int) < 0) = true := by simp; omega
    clear hat hx
    go_enter Tryz.func134, Tryz.ntmps134
    go_wp2_with fail
    go_ret
    exact ⟨-1, rfl, by omega, fun h => by omega, Below.refl _ _⟩

set_option maxRecDepth 20000 in
set_option maxHeartbeats 1000000 in
theorem toOpS_any (l : List OpT) (v : Value) (w : World) (hrow : RowO w v l) (hl : l.length ≤ 2000000) :
    Calls Tryz.prog 139 #[v] w (OpsPost l w) := by
  obtain ⟨a, cap, rfl, hc1, hc2, hat⟩ := hrow.ops
  clear hrow
  unfold maxLen at hc2
  obtain ⟨w0, hmk, hown0, hb0⟩ := make_rowO l.length w hl
  have HN0 := Lib.hid hown0
  have HB0 := Lib.hid hb0
  clear hown0 hb0
  go_enter Tryz.func139, Tryz.ntmps139
  go_wp2_with fail
  clear hmk
  go_loopw [4] (fun i wr => ∃ k : Nat, k ≤ l.length ∧ i = .int .i64 k ∧ Hid (wr.ownsRow w.heap.size 189 3 (.slice (some ⟨w.heap.size, 0, none⟩) l.length l.length) l.length (OC (l.take k) ++ OC (List.replicate (l.length - k) noOp))) ∧ Hid (Below w.heap.size w wr)) (fun i _ => l.length - (intOf i).toNat)
  case atStart => exact ⟨0, Nat.zero_le _, rfl, HN0, HB0⟩
  case round =>
    clear HN0 HB0
    obtain ⟨k, hk, rfl, HN, HB⟩ := hrel
    have hbs := HB.out.size
    by_cases hlt : k < l.length
    · obtain ⟨g, o, rfl, hg, hcell1, hcell2, hcell3⟩ := hat k hlt
      have s1 := (HB.out.cell (p := ⟨g, o + k * 3, none⟩) hg).trans hcell1
      have s2 := (HB.out.cell (p := ⟨g, o + k * 3 + 1, none⟩) hg).trans hcell2
      have s3 := (HB.out.cell (p := ⟨g, o + k * 3 + 2, none⟩) hg).trans hcell3
      have HC := Lib.hid (fun W => toOp_any l[k] W)
      have ht : (l.take k).length = k := by rw [List.length_take]; omega
      have er : List.replicate (l.length - k) noOp = noOp :: List.replicate (l.length - (k + 1)) noOp := by rw [show l.length - k = (l.length - (k + 1)) + 1 by omega, List.replicate_succ]
      rw [er] at HN
      have HE := Lib.hid (set_three (l.take k) k ht noOp (List.replicate (l.length - (k + 1)) noOp) l[k])
      have HE2 := Lib.hid (get_three (l.take k) k ht noOp (List.replicate (l.length - (k + 1)) noOp))
      have HT : Hid (l.take k ++ [l[k]] = l.take (k + 1)) := (List.take_succ_eq_append_getElem hlt).symm
      rw [HT.out] at HE
      clear hcell1 hcell2 hcell3 hat HT er ht
      generalize l[k] = x at s1 s2 s3 HC HE
      obtain ⟨x1, x2, x3⟩ := x
      unfold opV at HC
      simp only at s1 s2 s3 HC HE
      go_wp2_with fail
      refine (HC.out _).mono ?_
      rintro e w1 ⟨rfl, hb1⟩
      have HN1 := Lib.hid (own_belowG HN.out hb1)
      have HB1 := Lib.hid (HB.out.trans (hb1.mono HB.out.size))
      have hfz := HN1.out.frozenAt (k * 3)
      have hfz2 := HN1.out.frozenAt (k * 3 + 1)
      have hfz3 := HN1.out.frozenAt (k * 3 + 2)
      have hcz : w1.cell? ⟨w.heap.size, k * 3, none⟩ = some (.int .i64 0) := by rw [HN1.out.cellAt (k * 3) (by omega), HE2.out.1]; rfl
      have hcz2 : w1.cell? ⟨w.heap.size, k * 3 + 1, none⟩ = some (.int .i64 0) := by rw [HN1.out.cellAt (k * 3 + 1) (by omega), HE2.out.2.1]; rfl
      have hcz3 : w1.cell? ⟨w.heap.size, k * 3 + 2, none⟩ = some (.string ByteArray.empty) := by rw [HN1.out.cellAt (k * 3 + 2) (by omega), HE2.out.2.2]; rfl
      have hst := HN1.out.stored (k * 3) (.int .i64 x1)
      have hst2 := hst.1.stored (k * 3 + 1) (.int .i64 x2)
      have hst3 := hst2.1.stored (k * 3 + 2) (.string ⟨x3.toArray⟩)
      rw [HE.out] at hst3
      have HN2 := Lib.hid hst3.1
      have HB2 := Lib.hid (((HB1.out.trans (only_below hst.2 (Nat.le_refl _) HB1.out.size)).trans (only_below hst2.2 (Nat.le_refl _) (Nat.le_trans HB1.out.size hst.2.size))).trans (only_below hst3.2 (Nat.le_refl _) (Nat.le_trans (Nat.le_trans HB1.out.size hst.2.size) hst2.2.size)))
      clear hst hst2 hst3 HN HB HC HE HE2 HN1 HB1 hb1
      go_wp2_with fail
      go_roundw
      case rel => exact ⟨k + 1, by omega, by go_num, HN2, HB2⟩
      case measure => simp [intOf]; omega
    · have HN1 : Hid (wr.ownsRow w.heap.size 189 3 (.slice (some ⟨w.heap.size, 0, none⟩) l.length l.length) l.length (OC l)) := by
        have := HN.out
        rw [List.take_of_length_le (by omega), show l.length - k = 0 by omega] at this
        simpa [OC, Hid] using this
      clear HN hat
      go_wp2_with fail
      go_ret
      exact ⟨_, rfl, HN1.out, HB.out⟩

set_option maxRecDepth 20000 in
set_option maxHeartbeats 2000000 in
theorem eqOpS_any (l m : List OpT) (v u : Value) (w : World) (hr1 : RowO w v l) (hr2 : RowO w u m) (hl : l.length ≤ 2000000) :
    Calls Tryz.prog 147 #[v, u] w fun e w' => e = .returned (.bool (decide (l = m))) ∧ Below w.heap.size w w' := by
  obtain ⟨a, cap, rfl, hc1, hc2, hat⟩ := hr1.ops
  obtain ⟨a2, cap2, rfl, hc3, hc4, hat2⟩ := hr2.ops
  clear hr1 hr2
  unfold maxLen at hc2 hc4
  by_cases hlen : l.length = m.length
  · have hlen1 : ((l.length : Int) != (m.length : Int)) = false := by simp [hlen]
    have hle1 : l.length ≤ m.length := by omega
    have hle2 : m.length ≤ l.length := by omega
    clear hlen
    go_enter Tryz.func147, Tryz.ntmps147
    go_wp2_with fail
    go_loopw [5] (fun i wr => ∃ k : Nat, k ≤ l.length ∧ i = .int .i64 k ∧ Hid (l.take k = m.take k) ∧ Hid (Below w.heap.size w wr)) (fun i _ => l.length - (intOf i).toNat)
    case atStart => exact ⟨0, Nat.zero_le _, rfl, rfl, Below.refl _ _⟩
    case round =>
      obtain ⟨k, hk, rfl, HO, HB⟩ := hrel
      by_cases hlt : k < l.length
      · obtain ⟨g, o, rfl, hg, hcell1, hcell2, hcell3⟩ := hat k hlt
        obtain ⟨g2, o2, rfl, hg2, hcell4, hcell5, hcell6⟩ := hat2 k (by omega)
        have s1 := (HB.out.cell (p := ⟨g, o + k * 3, none⟩) hg).trans hcell1
        have s2 := (HB.out.cell (p := ⟨g, o + k * 3 + 1, none⟩) hg).trans hcell2
        have s3 := (HB.out.cell (p := ⟨g, o + k * 3 + 2, none⟩) hg).trans hcell3
        have s4 := (HB.out.cell (p := ⟨g2, o2 + k * 3, none⟩) hg2).trans hcell4
        have s5 := (HB.out.cell (p := ⟨g2, o2 + k * 3 + 1, none⟩) hg2).trans hcell5
        have s6 := (HB.out.cell (p := ⟨g2, o2 + k * 3 + 2, none⟩) hg2).trans hcell6
        have hi1 : (k : Int) < (l.length : Int) := by omega
        have hi2 : (k : Int) < (m.length : Int) := by omega
        have hbs := HB.out.size
        have hgw : g < wr.heap.size := by omega
        have hgw2 : g2 < wr.heap.size := by omega
        clear hcell1 hcell2 hcell3 hcell4 hcell5 hcell6 hat hat2
        obtain ⟨b, hbE⟩ : ∃ b, decide (l[k] = m[k]) = b := ⟨_, rfl⟩
        have HC := Lib.hid (fun W => eqOp_b hbE W)
        have HS : Hid (if b then l.take (k + 1) = m.take (k + 1) else decide (l = m) = false) := by
          unfold Hid
          subst hbE
          by_cases he : l[k] = m[k]
          · simp only [he, decide_true, if_true]; exact same_next HO.out hlt (by omega) he
          · simp only [he, decide_false]; exact decide_eq_false (same_not hlt (by omega) he)
        clear HO hbE
        generalize l[k] = x at s1 s2 s3 HC
        generalize m[k] = y at s4 s5 s6 HC
        obtain ⟨x1, x2, x3⟩ := x
        obtain ⟨y1, y2, y3⟩ := y
        unfold opV at HC
        simp only at s1 s2 s3 s4 s5 s6 HC
        go_wp2_with fail
        go_region_held3 (fun w' => w'.cell? ⟨g, o + k * 3, none⟩ = some (.int .i64 x1) ∧ w'.cell? ⟨g, o + k * 3 + 1, none⟩ = some (.int .i64 x2) ∧ w'.cell? ⟨g, o + k * 3 + 2, none⟩ = some (.string ⟨x3.toArray⟩) ∧ w'.cell? ⟨g2, o2 + k * 3, none⟩ = some (.int .i64 y1) ∧ w'.cell? ⟨g2, o2 + k * 3 + 1, none⟩ = some (.int .i64 y2) ∧ w'.cell? ⟨g2, o2 + k * 3 + 2, none⟩ = some (.string ⟨y3.toArray⟩)) (first | exact ⟨s1, s2, s3, s4, s5, s6⟩ | exact ks)
          (first | (go_at_call 182; refine (HC.out _).mono ?_; rintro e w5 ⟨rfl, hb5⟩; have ks := And.intro ((hb5.cell (p := ⟨g, o + k * 3, none⟩) hgw).trans s1) (And.intro ((hb5.cell (p := ⟨g, o + k * 3 + 1, none⟩) hgw).trans s2) (And.intro ((hb5.cell (p := ⟨g, o + k * 3 + 2, none⟩) hgw).trans s3) (And.intro ((hb5.cell (p := ⟨g2, o2 + k * 3, none⟩) hgw2).trans s4) (And.intro ((hb5.cell (p := ⟨g2, o2 + k * 3 + 1, none⟩) hgw2).trans s5) ((hb5.cell (p := ⟨g2, o2 + k * 3 + 2, none⟩) hgw2).trans s6)))))))
        have HB5 := Lib.hid ((Below.drew HB.out).trans (hb5.mono HB.out.size))
        clear hb5 ks
        rcases b with _ | _
        · go_wp2_with fail
          go_ret
          exact ⟨ret_bool (by have := HS.out; simpa using this.symm), HB5.out⟩
        · go_wp2_with fail
          go_roundw
          case rel => exact ⟨k + 1, by omega, by go_num, HS.out, HB5⟩
          case measure => simp [intOf]; omega
      · have HS : Hid (decide (l = m) = true) := decide_eq_true (same_all HO.out (by omega) (by omega))
        clear HO hat hat2
        go_wp2_with fail
        go_ret
        exact ⟨ret_bool HS.out.symm, HB.out⟩
  · have hlen1 : ((l.length : Int) != (m.length : Int)) = true := by simp; omega
    have HS : Hid (decide (l = m) = false) := decide_eq_false (fun h => hlen (by rw [h]))
    clear hat hat2
    go_enter Tryz.func147, Tryz.ntmps147
    go_wp2_with fail
    go_ret
    exact ⟨ret_bool HS.out.symm, Below.refl _ _⟩

end Go.Proofs.YtngldlconipnnaaGreatDoor
