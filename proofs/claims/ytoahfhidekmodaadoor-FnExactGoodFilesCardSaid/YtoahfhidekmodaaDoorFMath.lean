/- Plain mathematics of stores: texts in order, files, what is taken; no program. -/
import Derived.Test.YtoahfhidekmodaaDoorMath
import GoSem.Op.String
namespace Go.Proofs.YtoahfhidekmodaaDoor
namespace Pth

/-- One text is less than another. -/
def ltT (a b : List UInt8) : Bool := Op.bytesLess a b
theorem ltT_nil (b : List UInt8) : ltT b [] = false := by cases b <;> rfl
theorem ltT_nil_cons (c : UInt8) (t : List UInt8) : ltT [] (c :: t) = true := rfl
theorem ltT_cons (c d : UInt8) (a b : List UInt8) : ltT (c :: a) (d :: b) = (decide (c < d) || (c == d && ltT a b)) := by
  unfold ltT
  rw [Op.bytesLess]
theorem ltT_irrefl (a : List UInt8) : ltT a a = false := by
  induction a with
  | nil => rfl
  | cons c t ih => rw [ltT_cons, ih]; simp
theorem ltT_trans {a b c : List UInt8} (h1 : ltT a b = true) (h2 : ltT b c = true) : ltT a c = true := by
  induction a generalizing b c with
  | nil =>
    cases b with
    | nil => rw [ltT_nil] at h1; cases h1
    | cons x t =>
      cases c with
      | nil => rw [ltT_nil] at h2; cases h2
      | cons y u => rfl
  | cons x t ih =>
    cases b with
    | nil => rw [ltT_nil] at h1; cases h1
    | cons y u =>
      cases c with
      | nil => rw [ltT_nil] at h2; cases h2
      | cons z v =>
        rw [ltT_cons] at h1 h2 ⊢
        simp only [Bool.or_eq_true, decide_eq_true_iff, Bool.and_eq_true, beq_iff_eq] at h1 h2 ⊢
        rcases h1 with h1 | ⟨rfl, h1⟩
        · rcases h2 with h2 | ⟨rfl, h2⟩
          · exact .inl (UInt8.lt_trans h1 h2)
          · exact .inl h1
        · rcases h2 with h2 | ⟨rfl, h2⟩
          · exact .inl h2
          · exact .inr ⟨rfl, ih h1 h2⟩
theorem ltT_total (a b : List UInt8) : ltT a b = true ∨ a = b ∨ ltT b a = true := by
  induction a generalizing b with
  | nil =>
    cases b with
    | nil => exact .inr (.inl rfl)
    | cons y u => exact .inl rfl
  | cons x t ih =>
    cases b with
    | nil => exact .inr (.inr rfl)
    | cons y u =>
      rw [ltT_cons, ltT_cons]
      simp only [Bool.or_eq_true, decide_eq_true_iff, Bool.and_eq_true, beq_iff_eq]
      rcases Nat.lt_trichotomy x.toNat y.toNat with h | h | h
      · exact .inl (.inl (UInt8.lt_iff_toNat_lt.2 h))
      · obtain rfl : x = y := UInt8.toNat_inj.1 h
        rcases ih u with h1 | rfl | h1
        · exact .inl (.inr ⟨rfl, h1⟩)
        · exact .inr (.inl rfl)
        · exact .inr (.inr (.inr ⟨rfl, h1⟩))
      · exact .inr (.inr (.inl (UInt8.lt_iff_toNat_lt.2 h)))

/-- A file: its name and its body. -/
abbrev FileT := List UInt8 × List UInt8
def nameOk (n : List UInt8) : Bool := pathL n && (decide (n.length ≤ 20) && (cleanL n == n))
def fileOk (f : FileT) : Bool := nameOk f.1 && decide (f.2.length ≤ 40)
def riseN (l : List (List UInt8)) : Bool := decide (l.Pairwise (fun a b => ltT a b = true))
def goodF (l : List FileT) : Bool := l.all fileOk && (riseN (l.map (·.1)) && decide (l.length ≤ 12))

def findF : List FileT → List UInt8 → Int
  | [], _ => -1
  | f :: t, n => if f.1 = n then 0 else if findF t n = -1 then -1 else findF t n + 1
def putF : List FileT → FileT → List FileT
  | [], f => [f]
  | x :: t, f => if ltT x.1 f.1 = true then x :: putF t f else if x.1 = f.1 then f :: t else f :: x :: t
def dropF (l : List FileT) (n : List UInt8) : List FileT := l.filter (fun f => !(f.1 == n))
def putN : List (List UInt8) → List UInt8 → List (List UInt8)
  | [], n => [n]
  | x :: t, n => if ltT x n = true then x :: putN t n else if x = n then x :: t else n :: x :: t
def dropN (l : List (List UInt8)) (n : List UInt8) : List (List UInt8) := l.filter (fun x => !(x == n))

structure StoreT where
  files : List FileT
  staged : List FileT
  gone : List (List UInt8)
def noStore : StoreT := ⟨[], [], []⟩
def takenF (s : StoreT) : List FileT := s.gone.foldl dropF (s.staged.foldl putF s.files)
def goneOk (s : StoreT) : Bool := s.gone.all (fun n => nameOk n && decide (findF s.staged n = -1)) && riseN s.gone
def goodS (s : StoreT) : Bool := goodF s.files && (goodF s.staged && (decide (s.gone.length ≤ 12) && (goneOk s && goodF (takenF s))))

/-- What is told: the store where it is good. -/
def tellT (s : StoreT) : StoreT := if goodS s = true then s else noStore
def stageFT (s : StoreT) (n b : List UInt8) : StoreT := ⟨s.files, putF s.staged (n, b), dropN s.gone n⟩
def stageGT (s : StoreT) (n : List UInt8) : StoreT := ⟨s.files, dropF s.staged n, putN s.gone n⟩

/-! Rising. -/
theorem riseN_iff {l : List (List UInt8)} : riseN l = true ↔ l.Pairwise (fun a b => ltT a b = true) := by simp [riseN]
theorem riseN_next {l : List (List UInt8)} {k : Nat} (hk : k < l.length) (h : riseN (l.take k) = true) (h3 : ∀ h0 : 0 < k, ltT l[k - 1] l[k] = true) : riseN (l.take (k + 1)) = true := by
  rw [riseN_iff] at h ⊢
  rw [List.take_succ_eq_append_getElem hk, List.pairwise_append]
  refine ⟨h, by simp, fun x hx y hy => ?_⟩
  rw [List.mem_singleton] at hy
  subst hy
  obtain ⟨j, hj, rfl⟩ := List.mem_iff_getElem.1 hx
  rw [List.length_take] at hj
  have h0 : 0 < k := by omega
  have h4 := h3 h0
  rw [List.getElem_take]
  rcases Nat.lt_or_ge j (k - 1) with hj1 | hj1
  · have h5 := List.pairwise_iff_getElem.1 h j (k - 1) (by rw [List.length_take]; omega) (by rw [List.length_take]; omega) hj1
    rw [List.getElem_take, List.getElem_take] at h5
    exact ltT_trans h5 h4
  · have : j = k - 1 := by omega
    subst this
    exact h4
theorem riseN_fall {l : List (List UInt8)} {k : Nat} (hk : k < l.length) (h0 : 0 < k) (h : ltT l[k - 1] l[k] = false) : riseN l = false := by
  rw [← Bool.not_eq_true, riseN_iff]
  intro hh
  have := List.pairwise_iff_getElem.1 hh (k - 1) k (by omega) hk (by omega)
  rw [this] at h
  cases h

/-! Finding. -/
theorem find_range (l : List FileT) (n : List UInt8) : -1 ≤ findF l n ∧ findF l n < l.length := by
  induction l with
  | nil => simp [findF]
  | cons f t ih =>
    unfold findF
    split
    · simp
    · split
      · simp; omega
      · simp only [List.length_cons]; omega
theorem find_none {l : List FileT} {n : List UInt8} (h : ∀ f ∈ l, f.1 ≠ n) : findF l n = -1 := by
  induction l with
  | nil => rfl
  | cons f t ih =>
    rw [findF, if_neg (h f (by simp)), ih (fun g hg => h g (by simp [hg])), if_pos rfl]
theorem find_hit {l : List FileT} {n : List UInt8} {k : Nat} (hk : k < l.length) (h0 : ∀ j (hj : j < k), (l[j]'(by omega)).1 ≠ n) (h1 : l[k].1 = n) : findF l n = k := by
  induction l generalizing k with
  | nil => simp at hk
  | cons f t ih =>
    cases k with
    | zero => rw [findF, if_pos (by simpa using h1)]; rfl
    | succ k =>
      have h2 : f.1 ≠ n := by simpa using h0 0 (by omega)
      have h3 := ih (k := k) (by simpa using hk) (fun j hj => by simpa using h0 (j + 1) (by omega)) (by simpa using h1)
      rw [findF, if_neg h2, h3, if_neg (by omega)]
      omega
theorem find_miss {l : List FileT} {n : List UInt8} (h : findF l n = -1) : ∀ f ∈ l, f.1 ≠ n := by
  induction l with
  | nil => simp
  | cons f t ih =>
    unfold findF at h
    split at h
    · cases h
    · rename_i h1
      split at h
      · rename_i h2
        intro g hg
        rcases List.mem_cons.1 hg with rfl | hg
        · exact h1
        · exact ih h2 g hg
      · have := (find_range t n).1
        omega

/-! Putting: by places. -/
theorem putF_start (l : List FileT) (f : FileT) : putF l f = l.take 0 ++ putF (l.drop 0) f := by simp
theorem putF_less {l : List FileT} {f : FileT} {k : Nat} (hk : k < l.length) (h : putF l f = l.take k ++ putF (l.drop k) f) (hx : ltT l[k].1 f.1 = true) : putF l f = l.take (k + 1) ++ putF (l.drop (k + 1)) f := by
  rw [h, List.drop_eq_getElem_cons hk, putF, if_pos hx, List.take_succ_eq_append_getElem hk, List.append_assoc, List.singleton_append]
theorem putF_there {l : List FileT} {f : FileT} {k : Nat} (hk : k < l.length) (h : putF l f = l.take k ++ putF (l.drop k) f) (hx : l[k].1 = f.1) : putF l f = (l.take k ++ [f]) ++ l.drop (k + 1) := by
  rw [h, List.drop_eq_getElem_cons hk, putF, if_neg (by rw [hx, ltT_irrefl]; simp), if_pos hx]; simp
theorem putF_new {l : List FileT} {f : FileT} {k : Nat} (h : putF l f = l.take k ++ putF (l.drop k) f) (hx : ∀ hk : k < l.length, ltT l[k].1 f.1 = false ∧ ¬ l[k].1 = f.1) : putF l f = (l.take k ++ [f]) ++ l.drop k := by
  rw [h]
  by_cases hk : k < l.length
  · have := hx hk
    rw [List.drop_eq_getElem_cons hk, putF, if_neg (by rw [this.1]; simp), if_neg this.2]; simp
  · rw [List.drop_of_length_le (by omega)]; simp [putF]
theorem putF_len (l : List FileT) (f : FileT) : (putF l f).length ≤ l.length + 1 := by
  induction l with
  | nil => simp [putF]
  | cons x t ih =>
    unfold putF
    split
    · simp only [List.length_cons]; omega
    · split <;> simp
theorem putN_start (l : List (List UInt8)) (n : List UInt8) : putN l n = l.take 0 ++ putN (l.drop 0) n := by simp
theorem putN_less {l : List (List UInt8)} {n : List UInt8} {k : Nat} (hk : k < l.length) (h : putN l n = l.take k ++ putN (l.drop k) n) (hx : ltT l[k] n = true) : putN l n = l.take (k + 1) ++ putN (l.drop (k + 1)) n := by
  rw [h, List.drop_eq_getElem_cons hk, putN, if_pos hx, List.take_succ_eq_append_getElem hk, List.append_assoc, List.singleton_append]
theorem putN_there {l : List (List UInt8)} {n : List UInt8} {k : Nat} (hk : k < l.length) (h : putN l n = l.take k ++ putN (l.drop k) n) (hx : l[k] = n) : putN l n = l := by
  rw [h, List.drop_eq_getElem_cons hk, putN, if_neg (by rw [hx, ltT_irrefl]; simp), if_pos hx, ← List.drop_eq_getElem_cons hk]; simp
theorem putN_new {l : List (List UInt8)} {n : List UInt8} {k : Nat} (h : putN l n = l.take k ++ putN (l.drop k) n) (hx : ∀ hk : k < l.length, ltT l[k] n = false ∧ ¬ l[k] = n) : putN l n = (l.take k ++ [n]) ++ l.drop k := by
  rw [h]
  by_cases hk : k < l.length
  · have := hx hk
    rw [List.drop_eq_getElem_cons hk, putN, if_neg (by rw [this.1]; simp), if_neg this.2]; simp
  · rw [List.drop_of_length_le (by omega)]; simp [putN]
theorem putN_len (l : List (List UInt8)) (n : List UInt8) : (putN l n).length ≤ l.length + 1 := by
  induction l with
  | nil => simp [putN]
  | cons x t ih =>
    unfold putN
    split
    · simp only [List.length_cons]; omega
    · split <;> simp
theorem dropF_len (l : List FileT) (n : List UInt8) : (dropF l n).length ≤ l.length := List.length_filter_le _ _
theorem dropN_len (l : List (List UInt8)) (n : List UInt8) : (dropN l n).length ≤ l.length := List.length_filter_le _ _

end Pth
end Go.Proofs.YtoahfhidekmodaaDoor
