/- Plain mathematics of paths: lists of bytes, no program. -/
namespace Go.Proofs.YtoahfhidekmodaaDoor
namespace Pth

/-- The byte may stand in a path. -/
def pb (c : Int) : Bool := decide (97 ≤ c) && decide (c ≤ 122) || decide (48 ≤ c) && decide (c ≤ 57) || (c == 46) || (c == 95) || (c == 45) || (c == 47)

theorem pb_high {c : Int} (h : 123 ≤ c) : pb c = false := by
  simp only [pb, Bool.or_eq_false_iff, Bool.and_eq_false_iff, decide_eq_false_iff_not, beq_eq_false_iff_ne]
  omega

/-- The text is a path. -/
def okL (l : List UInt8) : Bool := l.all fun c => pb (c.toNat : Int)
def pathL (l : List UInt8) : Bool := okL l && decide (l.length ≤ 60)

def rootedL : List UInt8 → Bool
  | [] => false
  | c :: _ => c == 47

/-- The pieces between slashes; cur: what is read since the last one, back to front. -/
def splitAux (cur : List UInt8) : List UInt8 → List (List UInt8)
  | [] => [cur.reverse]
  | c :: r => if c = 47 then cur.reverse :: splitAux [] r else splitAux (c :: cur) r
def splitL (l : List UInt8) : List (List UInt8) := splitAux [] l

def dots : List UInt8 := [46, 46]

/-- One part taken. -/
def pstep (rooted : Bool) (acc : List (List UInt8)) (p : List UInt8) : List (List UInt8) :=
  if p = [] ∨ p = [46] then acc
  else if p = dots then
    if acc ≠ [] ∧ acc.getLast? ≠ some dots then acc.dropLast
    else if rooted then acc else acc ++ [p]
  else acc ++ [p]

def partsFrom (rooted : Bool) : List (List UInt8) → List (List UInt8) → List (List UInt8)
  | acc, [] => acc
  | acc, p :: r => partsFrom rooted (pstep rooted acc p) r
def partsL (l : List UInt8) : List (List UInt8) := partsFrom (rootedL l) [] (splitL l)

/-- Parts with slashes between. -/
def glue : List (List UInt8) → List UInt8
  | [] => []
  | [p] => p
  | p :: q :: r => p ++ 47 :: glue (q :: r)
def joinL (parts : List (List UInt8)) (rooted : Bool) : List UInt8 :=
  if rooted then 47 :: glue parts else if glue parts = [] then [46] else glue parts
def cleanL (l : List UInt8) : List UInt8 := joinL (partsL l) (rootedL l)

theorem glue_snoc (a : List (List UInt8)) (p : List UInt8) : glue (a ++ [p]) = if a = [] then p else glue a ++ 47 :: p := by
  induction a with
  | nil => simp [glue]
  | cons x r ih =>
    cases r with
    | nil => simp [glue]
    | cons y t => simp only [List.cons_append, glue] at ih ⊢; rw [ih]; simp

theorem okL_snoc (a : List UInt8) (c : UInt8) : okL (a ++ [c]) = (okL a && pb (c.toNat : Int)) := by simp [okL]
theorem okL_bad {l : List UInt8} {c : UInt8} (h : c ∈ l) (hc : pb (c.toNat : Int) = false) : okL l = false := by
  rw [okL, List.all_eq_false]
  exact ⟨c, h, by rw [hc]; simp⟩
theorem take_snoc (s : ByteArray) (k : Nat) (h : k < s.size) : s.data.toList.take (k + 1) = s.data.toList.take k ++ [s[k]] := by
  rw [List.take_succ_eq_append_getElem (by simpa using h)]; rfl
theorem mem_at (s : ByteArray) (k : Nat) (h : k < s.size) : s[k] ∈ s.data.toList := by
  have : s[k] = s.data.toList[k]'(by simpa using h) := rfl
  rw [this]; exact List.getElem_mem _
theorem take_all (s : ByteArray) (k : Nat) (h : s.size ≤ k) : s.data.toList.take k = s.data.toList := List.take_of_length_le (by simpa using h)
theorem len_eq (s : ByteArray) : s.data.toList.length = s.size := by rw [Array.length_toList]; rfl
theorem pathL_false {s : ByteArray} (k : Nat) (h : k < s.size) (hc : pb (s[k].toNat : Int) = false) : pathL s.data.toList = false := by
  simp [pathL, okL_bad (mem_at s k h) hc]
theorem pathL_long {s : ByteArray} (h : 60 < s.size) : pathL s.data.toList = false := by
  have : ¬ s.data.toList.length ≤ 60 := by rw [len_eq]; omega
  simp only [pathL, this, decide_false, Bool.and_false]
theorem pathL_end {s : ByteArray} {k : Nat} (hk : s.size ≤ k) (hok : okL (s.data.toList.take k) = true) : pathL s.data.toList = decide (s.size ≤ 60) := by
  rw [take_all s k hk] at hok
  simp only [pathL, hok, len_eq, Bool.true_and]
theorem okL_next {s : ByteArray} {k : Nat} (h : k < s.size) (hok : okL (s.data.toList.take k) = true) (hc : pb (s[k].toNat : Int) = true) : okL (s.data.toList.take (k + 1)) = true := by
  rw [take_snoc s k h, okL_snoc, hok, hc]; rfl
theorem rooted_pos {s : ByteArray} (h : 0 < s.size) : rootedL s.data.toList = ((s[0].toNat : Int) == 47) := by
  have e : s.data.toList = s[0] :: s.data.toList.drop 1 := by
    have h' : 0 < s.data.toList.length := by simpa using h
    exact List.drop_eq_getElem_cons (l := s.data.toList) (i := 0) h'
  rw [e, rootedL, Bool.eq_iff_iff]
  simp only [beq_iff_eq]
  constructor
  · intro h1; rw [h1]; rfl
  · intro h1; exact UInt8.toNat_inj.1 (by have : (47 : UInt8).toNat = 47 := rfl; omega)
theorem rooted_nil {s : ByteArray} (h : s.size = 0) : rootedL s.data.toList = false := by
  have : s.data.toList = [] := List.eq_nil_of_length_eq_zero (by simpa using h)
  rw [this]; rfl

/-- What is read since the last slash: bytes f to k. -/
def mid (l : List UInt8) (f k : Nat) : List UInt8 := (l.take k).drop f
theorem mid_snoc (s : ByteArray) (f k : Nat) (hf : f ≤ k) (h : k < s.size) : mid s.data.toList f (k + 1) = mid s.data.toList f k ++ [s[k]] := by
  unfold mid
  rw [take_snoc s k h, List.drop_append_of_le_length]
  rw [List.length_take, len_eq]; omega
theorem mid_self (l : List UInt8) (k : Nat) : mid l k k = [] := by
  unfold mid; exact List.drop_of_length_le (by rw [List.length_take]; omega)
theorem drop_at (s : ByteArray) (k : Nat) (h : k < s.size) : s.data.toList.drop k = s[k] :: s.data.toList.drop (k + 1) :=
  List.drop_eq_getElem_cons (l := s.data.toList) (i := k) (by simpa using h)
theorem split_start (s : ByteArray) : splitL s.data.toList = [] ++ splitAux (mid s.data.toList 0 0).reverse (s.data.toList.drop 0) := by
  simp [splitL, mid]
theorem split_slash {s : ByteArray} {acc : List (List UInt8)} {f k : Nat} (h : k < s.size) (hc : s[k].toNat = 47) (e : splitL s.data.toList = acc ++ splitAux (mid s.data.toList f k).reverse (s.data.toList.drop k)) :
    splitL s.data.toList = (acc ++ [mid s.data.toList f k]) ++ splitAux (mid s.data.toList (k + 1) (k + 1)).reverse (s.data.toList.drop (k + 1)) := by
  have hc' : s[k] = 47 := UInt8.toNat_inj.1 (by rw [hc]; rfl)
  rw [e, drop_at s k h, splitAux, if_pos hc', mid_self]
  simp
theorem split_other {s : ByteArray} {acc : List (List UInt8)} {f k : Nat} (hf : f ≤ k) (h : k < s.size) (hc : ¬ s[k].toNat = 47) (e : splitL s.data.toList = acc ++ splitAux (mid s.data.toList f k).reverse (s.data.toList.drop k)) :
    splitL s.data.toList = acc ++ splitAux (mid s.data.toList f (k + 1)).reverse (s.data.toList.drop (k + 1)) := by
  have hc' : ¬ s[k] = 47 := fun h1 => hc (by rw [h1]; rfl)
  rw [e, drop_at s k h, splitAux, if_neg hc', mid_snoc s f k hf h]
  simp
theorem split_end {s : ByteArray} {acc : List (List UInt8)} {f k : Nat} (hk : s.size ≤ k) (e : splitL s.data.toList = acc ++ splitAux (mid s.data.toList f k).reverse (s.data.toList.drop k)) :
    splitL s.data.toList = acc ++ [mid s.data.toList f s.size] := by
  have h1 : s.data.toList.drop k = [] := List.drop_of_length_le (by rw [len_eq]; exact hk)
  have h2 : mid s.data.toList f k = mid s.data.toList f s.size := by unfold mid; rw [take_all s k hk, take_all s s.size (Nat.le_refl _)]
  rw [e, h1, splitAux, h2]
  simp

theorem splitAux_len (l : List UInt8) : ∀ cur, (splitAux cur l).length ≤ l.length + 1 := by
  induction l with
  | nil => intro cur; simp [splitAux]
  | cons c r ih =>
    intro cur
    rw [splitAux]
    split
    · have := ih []; simp only [List.length_cons]; omega
    · have := ih (c :: cur); simp only [List.length_cons]; omega
theorem split_len (s : ByteArray) : (splitL s.data.toList).length ≤ s.size + 1 := by
  have := splitAux_len s.data.toList []
  rw [len_eq] at this; exact this

theorem parts_step {L acc r : List (List UInt8)} {b : Bool} {p : List UInt8} {k : Nat} (hk : k < r.length) (hp : r[k] = p) (e : L = partsFrom b acc (r.drop k)) :
    L = partsFrom b (pstep b acc p) (r.drop (k + 1)) := by
  rw [e, List.drop_eq_getElem_cons hk, hp, partsFrom]
theorem parts_end {L acc r : List (List UInt8)} {b : Bool} {k : Nat} (hk : r.length ≤ k) (e : L = partsFrom b acc (r.drop k)) : L = acc := by
  rw [e, List.drop_of_length_le hk, partsFrom]
theorem pstep_skip {b : Bool} {acc : List (List UInt8)} {p : List UInt8} (h : p = [] ∨ p = [46]) : pstep b acc p = acc := by unfold pstep; rw [if_pos h]
theorem pstep_drop {b : Bool} {a : List (List UInt8)} {q : List UInt8} (h : ¬ q = dots) : pstep b (a ++ [q]) dots = a := by
  unfold pstep
  rw [if_neg (by decide), if_pos rfl, if_pos (by simpa using h)]
  simp
theorem pstep_stay0 : pstep true [] dots = [] := by decide
theorem pstep_stay (a : List (List UInt8)) : pstep true (a ++ [dots]) dots = a ++ [dots] := by
  unfold pstep
  rw [if_neg (by decide), if_pos rfl, if_neg (by simp), if_pos rfl]
theorem pstep_up0 : pstep false [] dots = [] ++ [dots] := by decide
theorem pstep_up (a : List (List UInt8)) : pstep false (a ++ [dots]) dots = (a ++ [dots]) ++ [dots] := by
  unfold pstep
  rw [if_neg (by decide), if_pos rfl, if_neg (by simp), if_neg (by decide)]
theorem pstep_name {b : Bool} {acc : List (List UInt8)} {p : List UInt8} (h0 : ¬ p = []) (h1 : ¬ p = [46]) (h2 : ¬ p = dots) : pstep b acc p = acc ++ [p] := by
  unfold pstep
  rw [if_neg (by simp [h0, h1]), if_neg h2]

end Pth
end Go.Proofs.YtoahfhidekmodaaDoor
