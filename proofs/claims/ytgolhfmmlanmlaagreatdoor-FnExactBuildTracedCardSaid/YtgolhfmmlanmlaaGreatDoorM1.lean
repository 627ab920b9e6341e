/- Texts of one claim, joined in their order. -/
import Derived.Test.YtgolhfmmlanmlaaGreatDoorRows
import Derived.WalkKit
import Derived.WalkSpells
import Derived.WalkLawsBesides
import Derived.Deep.Light
import Derived.Deep.LoopGhost
import Derived.Deep.DeepMust
import Derived.Lib.Hide
import Derived.BigQuiet
import Derived.Deep.QuietTactic
import Derived.Deep.RegionHeld3
import Derived.StillTailTactics
import Derived.Laws.IdiomStrings
import Derived.Laws.OwnMore


/- Plain mathematics of paths: lists of bytes, no program. -/
namespace Go.Proofs.YtgolhfmmlanmlaaGreatDoor
namespace Pth

/-- The byte may stand in a path. -/
def pb (c : Int) : Bool := decide (97 ≤ c) && decide (c ≤ 122) || decide (48 ≤ c) && decide (c ≤ 57) || (c == 46) || (c == 95) || (c == 45) || (c == 47)

theorem pb_high {c : Int} (h : 123 ≤ c) : pb c = false := by
  simp only [pb, Bool.or_eq_false_iff, Bool.and_eq_false_iff, decide_eq_false_iff_not, beq_eq_false_iff_ne]
  omega

/-- The text is a path. -/
def okL (l : List UInt8) : Bool := l.all fun c => pb (c.toNat : Int)
def pathL (l : List UInt8) : Bool := okL l && decide (l.length ≤ 60)

def rootedL : List UInt8 → Bool
  | [] => false
  | c :: _ => c == 47

/-- The pieces between slashes; cur: what is read since the last one, back to front. -/
def splitAux (cur : List UInt8) : List UInt8 → List (List UInt8)
  | [] => [cur.reverse]
  | c :: r => if c = 47 then cur.reverse :: splitAux [] r else splitAux (c :: cur) r
def splitL (l : List UInt8) : List (List UInt8) := splitAux [] l

def dots : List UInt8 := [46, 46]

/-- One part taken. -/
def pstep (rooted : Bool) (acc : List (List UInt8)) (p : List UInt8) : List (List UInt8) :=
  if p = [] ∨ p = [46] then acc
  else if p = dots then
    if acc ≠ [] ∧ acc.getLast? ≠ some dots then acc.dropLast
    else if rooted then acc else acc ++ [p]
  else acc ++ [p]

def partsFrom (rooted : Bool) : List (List UInt8) → List (List UInt8) → List (List UInt8)
  | acc, [] => acc
  | acc, p :: r => partsFrom rooted (pstep rooted acc p) r
def partsL (l : List UInt8) : List (List UInt8) := partsFrom (rootedL l) [] (splitL l)

/-- Parts with slashes between. -/
def glue : List (List UInt8) → List UInt8
  | [] => []
  | [p] => p
  | p :: q :: r => p ++ 47 :: glue (q :: r)
def joinL (parts : List (List UInt8)) (rooted : Bool) : List UInt8 :=
  if rooted then 47 :: glue parts else if glue parts = [] then [46] else glue parts
def cleanL (l : List UInt8) : List UInt8 := joinL (partsL l) (rootedL l)

theorem glue_snoc (a : List (List UInt8)) (p : List UInt8) : glue (a ++ [p]) = if a = [] then p else glue a ++ 47 :: p := by
  induction a with
  | nil => simp [glue]
  | cons x r ih =>
    cases r with
    | nil => simp [glue]
    | cons y t => simp only [List.cons_append, glue] at ih ⊢; rw [ih]; simp

theorem okL_snoc (a : List UInt8) (c : UInt8) : okL (a ++ [c]) = (okL a && pb (c.toNat : Int)) := by simp [okL]
theorem okL_bad {l : List UInt8} {c : UInt8} (h : c ∈ l) (hc : pb (c.toNat : Int) = false) : okL l = false := by
  rw [okL, List.all_eq_false]
  exact ⟨c, h, by rw [hc]; simp⟩
theorem take_snoc (s : ByteArray) (k : Nat) (h : k < s.size) : s.data.toList.take (k + 1) = s.data.toList.take k ++ [s[k]] := by
  rw [List.take_succ_eq_append_getElem (by simpa using h)]; rfl
theorem mem_at (s : ByteArray) (k : Nat) (h : k < s.size) : s[k] ∈ s.data.toList := by
  have : s[k] = s.data.toList[k]'(by simpa using h) := rfl
  rw [this]; exact List.getElem_mem _
theorem take_all (s : ByteArray) (k : Nat) (h : s.size ≤ k) : s.data.toList.take k = s.data.toList := List.take_of_length_le (by simpa using h)
theorem len_eq (s : ByteArray) : s.data.toList.length = s.size := by rw [Array.length_toList]; rfl
theorem pathL_false {s : ByteArray} (k : Nat) (h : k < s.size) (hc : pb (s[k].toNat : Int) = false) : pathL s.data.toList = false := by
  simp [pathL, okL_bad (mem_at s k h) hc]
theorem pathL_long {s : ByteArray} (h : 60 < s.size) : pathL s.data.toList = false := by
  have : ¬ s.data.toList.length ≤ 60 := by rw [len_eq]; omega
  simp only [pathL, this, decide_false, Bool.and_false]
theorem pathL_end {s : ByteArray} {k : Nat} (hk : s.size ≤ k) (hok : okL (s.data.toList.take k) = true) : pathL s.data.toList = decide (s.size ≤ 60) := by
  rw [take_all s k hk] at hok
  simp only [pathL, hok, len_eq, Bool.true_and]
theorem okL_next {s : ByteArray} {k : Nat} (h : k < s.size) (hok : okL (s.data.toList.take k) = true) (hc : pb (s[k].toNat : Int) = true) : okL (s.data.toList.take (k + 1)) = true := by
  rw [take_snoc s k h, okL_snoc, hok, hc]; rfl
theorem rooted_pos {s : ByteArray} (h : 0 < s.size) : rootedL s.data.toList = ((s[0].toNat : Int) == 47) := by
  have e : s.data.toList = s[0] :: s.data.toList.drop 1 := by
    have h' : 0 < s.data.toList.length := by simpa using h
    exact List.drop_eq_getElem_cons (l := s.data.toList) (i := 0) h'
  rw [e, rootedL, Bool.eq_iff_iff]
  simp only [beq_iff_eq]
  constructor
  · intro h1; rw [h1]; rfl
  · intro h1; exact UInt8.toNat_inj.1 (by have : (47 : UInt8).toNat = 47 := rfl; omega)
theorem rooted_nil {s : ByteArray} (h : s.size = 0) : rootedL s.data.toList = false := by
  have : s.data.toList = [] := List.eq_nil_of_length_eq_zero (by simpa using h)
  rw [this]; rfl

/-- What is read since the last slash: bytes f to k. -/
def mid (l : List UInt8) (f k : Nat) : List UInt8 := (l.take k).drop f
theorem mid_snoc (s : ByteArray) (f k : Nat) (hf : f ≤ k) (h : k < s.size) : mid s.data.toList f (k + 1) = mid s.data.toList f k ++ [s[k]] := by
  unfold mid
  rw [take_snoc s k h, List.drop_append_of_le_length]
  rw [List.length_take, len_eq]; omega
theorem mid_self (l : List UInt8) (k : Nat) : mid l k k = [] := by
  unfold mid; exact List.drop_of_length_le (by rw [List.length_take]; omega)
theorem drop_at (s : ByteArray) (k : Nat) (h : k < s.size) : s.data.toList.drop k = s[k] :: s.data.toList.drop (k + 1) :=
  List.drop_eq_getElem_cons (l := s.data.toList) (i := k) (by simpa using h)
theorem split_start (s : ByteArray) : splitL s.data.toList = [] ++ splitAux (mid s.data.toList 0 0).reverse (s.data.toList.drop 0) := by
  simp [splitL, mid]
theorem split_slash {s : ByteArray} {acc : List (List UInt8)} {f k : Nat} (h : k < s.size) (hc : s[k].toNat = 47) (e : splitL s.data.toList = acc ++ splitAux (mid s.data.toList f k).reverse (s.data.toList.drop k)) :
    splitL s.data.toList = (acc ++ [mid s.data.toList f k]) ++ splitAux (mid s.data.toList (k + 1) (k + 1)).reverse (s.data.toList.drop (k + 1)) := by
  have hc' : s[k] = 47 := UInt8.toNat_inj.1 (by rw [hc]; rfl)
  rw [e, drop_at s k h, splitAux, if_pos hc', mid_self]
  simp
theorem split_other {s : ByteArray} {acc : List (List UInt8)} {f k : Nat} (hf : f ≤ k) (h : k < s.size) (hc : ¬ s[k].toNat = 47) (e : splitL s.data.toList = acc ++ splitAux (mid s.data.toList f k).reverse (s.data.toList.drop k)) :
    splitL s.data.toList = acc ++ splitAux (mid s.data.toList f (k + 1)).reverse (s.data.toList.drop (k + 1)) := by
  have hc' : ¬ s[k] = 47 := fun h1 => hc (by rw [h1]; rfl)
  rw [e, drop_at s k h, splitAux, if_neg hc', mid_snoc s f k hf h]
  simp
theorem split_end {s : ByteArray} {acc : List (List UInt8)} {f k : Nat} (hk : s.size ≤ k) (e : splitL s.data.toList = acc ++ splitAux (mid s.data.toList f k).reverse (s.data.toList.drop k)) :
    splitL s.data.toList = acc ++ [mid s.data.toList f s.size] := by
  have h1 : s.data.toList.drop k = [] := List.drop_of_length_le (by rw [len_eq]; exact hk)
  have h2 : mid s.data.toList f k = mid s.data.toList f s.size := by unfold mid; rw [take_all s k hk, take_all s s.size (Nat.le_refl _)]
  rw [e, h1, splitAux, h2]
  simp

theorem splitAux_len (l : List UInt8) : ∀ cur, (splitAux cur l).length ≤ l.length + 1 := by
  induction l with
  | nil => intro cur; simp [splitAux]
  | cons c r ih =>
    intro cur
    rw [splitAux]
    split
    · have := ih []; simp only [List.length_cons]; omega
    · have := ih (c :: cur); simp only [List.length_cons]; omega
theorem split_len (s : ByteArray) : (splitL s.data.toList).length ≤ s.size + 1 := by
  have := splitAux_len s.data.toList []
  rw [len_eq] at this; exact this

theorem parts_step {L acc r : List (List UInt8)} {b : Bool} {p : List UInt8} {k : Nat} (hk : k < r.length) (hp : r[k] = p) (e : L = partsFrom b acc (r.drop k)) :
    L = partsFrom b (pstep b acc p) (r.drop (k + 1)) := by
  rw [e, List.drop_eq_getElem_cons hk, hp, partsFrom]
theorem parts_end {L acc r : List (List UInt8)} {b : Bool} {k : Nat} (hk : r.length ≤ k) (e : L = partsFrom b acc (r.drop k)) : L = acc := by
  rw [e, List.drop_of_length_le hk, partsFrom]
theorem pstep_skip {b : Bool} {acc : List (List UInt8)} {p : List UInt8} (h : p = [] ∨ p = [46]) : pstep b acc p = acc := by unfold pstep; rw [if_pos h]
theorem pstep_drop {b : Bool} {a : List (List UInt8)} {q : List UInt8} (h : ¬ q = dots) : pstep b (a ++ [q]) dots = a := by
  unfold pstep
  rw [if_neg (by decide), if_pos rfl, if_pos (by simpa using h)]
  simp
theorem pstep_stay0 : pstep true [] dots = [] := by decide
theorem pstep_stay (a : List (List UInt8)) : pstep true (a ++ [dots]) dots = a ++ [dots] := by
  unfold pstep
  rw [if_neg (by decide), if_pos rfl, if_neg (by simp), if_pos rfl]
theorem pstep_up0 : pstep false [] dots = [] ++ [dots] := by decide
theorem pstep_up (a : List (List UInt8)) : pstep false (a ++ [dots]) dots = (a ++ [dots]) ++ [dots] := by
  unfold pstep
  rw [if_neg (by decide), if_pos rfl, if_neg (by simp), if_neg (by decide)]
theorem pstep_name {b : Bool} {acc : List (List UInt8)} {p : List UInt8} (h0 : ¬ p = []) (h1 : ¬ p = [46]) (h2 : ¬ p = dots) : pstep b acc p = acc ++ [p] := by
  unfold pstep
  rw [if_neg (by simp [h0, h1]), if_neg h2]

end Pth
end Go.Proofs.YtgolhfmmlanmlaaGreatDoor

/- Plain mathematics of patterns: places, fits, stems; no program. -/
namespace Go.Proofs.YtgolhfmmlanmlaaGreatDoor
namespace Pth

/-- The byte may stand in a pattern. -/
def patB (c : UInt8) : Bool := pb (c.toNat : Int) || (c == 42) || (c == 63) || (c == 37)
def patOk (p : List UInt8) : Bool := p.all patB
def patL (p : List UInt8) : Bool := patOk p && (decide (1 ≤ p.length) && decide (p.length ≤ 20))

def hasL (l : List Int) (n : Int) : Bool := decide (n ∈ l)

def putL : List Int → Int → List Int
  | [], n => [n]
  | x :: t, n => if x < n then x :: putL t n else if x = n then x :: t else n :: x :: t

def closeFrom : List UInt8 → Nat → List Int → List Int
  | [], _, l => l
  | c :: t, i, l => closeFrom t (i + 1) (if c = 42 ∧ (i : Int) ∈ l then putL l ((i : Int) + 1) else l)
def closeL (p : List UInt8) (l : List Int) : List Int := closeFrom p 0 l

/-- What one place gives. -/
def step1 (p : List UInt8) (b : UInt8) (out : List Int) (k : Int) : List Int :=
  match p[k.toNat]? with
  | none => out
  | some c =>
    if c = 42 then (if b = 47 then out else putL out k)
    else if c = 37 then putL (putL out k) (k + 1)
    else if c = 63 then (if b = 47 then out else putL out (k + 1))
    else if c = b then putL out (k + 1) else out
def outL (p : List UInt8) (l : List Int) (b : UInt8) : List Int := l.foldl (step1 p b) []
def stepL (p : List UInt8) (l : List Int) (b : UInt8) : List Int := closeL p (outL p l b)
def startL (p : List UInt8) : List Int := closeL p [0]
def runL (p : List UInt8) (s : List UInt8) : List Int := s.foldl (stepL p) (startL p)
def fitsL (p s : List UInt8) : Bool := hasL (runL p s) p.length

/-- Rising and between two numbers. -/
def Rise (l : List Int) : Prop := l.Pairwise (· < ·)
def Within (lo hi : Int) (l : List Int) : Prop := ∀ x ∈ l, lo ≤ x ∧ x ≤ hi

theorem mem_put {l : List Int} {n x : Int} : x ∈ putL l n ↔ x = n ∨ x ∈ l := by
  induction l with
  | nil => simp [putL]
  | cons y t ih =>
    unfold putL
    split
    · simp only [List.mem_cons, ih]; constructor <;> rintro (h | h | h) <;> simp [h]
    · split
      · rename_i h; subst h; simp only [List.mem_cons]; constructor
        · exact .inr
        · rintro (h | h) <;> simp [h]
      · simp only [List.mem_cons]

theorem put_rise {l : List Int} {n : Int} (h : Rise l) : Rise (putL l n) := by
  induction l with
  | nil => simp [putL, Rise]
  | cons y t ih =>
    unfold Rise at h ih ⊢
    rw [List.pairwise_cons] at h
    unfold putL
    split
    · rename_i hy
      rw [List.pairwise_cons]
      refine ⟨fun x hx => ?_, ih h.2⟩
      rcases mem_put.1 hx with rfl | hx
      · exact hy
      · exact h.1 x hx
    · rename_i hy
      split
      · rw [List.pairwise_cons]; exact h
      · rw [List.pairwise_cons, List.pairwise_cons]
        refine ⟨fun x hx => ?_, h⟩
        rcases List.mem_cons.1 hx with rfl | hx
        · omega
        · have := h.1 x hx; omega

theorem put_within {lo hi n : Int} {l : List Int} (h : Within lo hi l) (h1 : lo ≤ n) (h2 : n ≤ hi) : Within lo hi (putL l n) := by
  intro x hx
  rcases mem_put.1 hx with rfl | hx
  · exact ⟨h1, h2⟩
  · exact h x hx

theorem rise_len {l : List Int} {lo hi : Int} (h : Rise l) (hw : Within lo hi l) (hl : lo ≤ hi + 1) : (l.length : Int) ≤ hi + 1 - lo := by
  induction l generalizing lo with
  | nil => simp; omega
  | cons y t ih =>
    unfold Rise at h ih
    rw [List.pairwise_cons] at h
    have hy := hw y (by simp)
    have := ih (lo := y + 1) h.2 (fun x hx => ⟨by have := h.1 x hx; omega, (hw x (by simp [hx])).2⟩) (by omega)
    simp only [List.length_cons]
    omega

theorem rise_ext {a b : List Int} (ha : Rise a) (hb : Rise b) (h : ∀ x, x ∈ a ↔ x ∈ b) : a = b := by
  induction a generalizing b with
  | nil =>
    cases b with
    | nil => rfl
    | cons y t => have := (h y).2 (by simp); simp at this
  | cons x r ih =>
    cases b with
    | nil => have := (h x).1 (by simp); simp at this
    | cons y t =>
      unfold Rise at ha hb ih
      rw [List.pairwise_cons] at ha hb
      have e : x = y := by
        have h1 := (h x).1 (by simp)
        have h2 := (h y).2 (by simp)
        rcases List.mem_cons.1 h1 with h1 | h1
        · exact h1
        · rcases List.mem_cons.1 h2 with h2 | h2
          · exact h2.symm
          · have := ha.1 y h2; have := hb.1 x h1; omega
      subst e
      congr 1
      refine ih ha.2 hb.2 (fun z => ?_)
      have hz := h z
      simp only [List.mem_cons] at hz
      constructor
      · intro h1
        rcases hz.1 (.inr h1) with h2 | h2
        · have := ha.1 z h1; omega
        · exact h2
      · intro h1
        rcases hz.2 (.inr h1) with h2 | h2
        · have := hb.1 z h1; omega
        · exact h2

def riseB (lo hi : Int) (l : List Int) : Bool := decide (l.Pairwise (· < ·)) && l.all (fun x => decide (lo ≤ x) && decide (x ≤ hi))
theorem riseB_iff {lo hi : Int} {l : List Int} : riseB lo hi l = true ↔ Rise l ∧ Within lo hi l := by
  simp [riseB, Rise, Within]
theorem riseB_false {lo hi : Int} {l : List Int} (h : ¬ (Rise l ∧ Within lo hi l)) : riseB lo hi l = false := by
  rw [← Bool.not_eq_true, riseB_iff]; exact h
theorem rise_next {lo hi : Int} {l : List Int} {k : Nat} (hk : k < l.length) (h : Rise (l.take k) ∧ Within lo hi (l.take k)) (h1 : lo ≤ l[k]) (h2 : l[k] ≤ hi) (h3 : ∀ h0 : 0 < k, l[k - 1] < l[k]) :
    Rise (l.take (k + 1)) ∧ Within lo hi (l.take (k + 1)) := by
  rw [List.take_succ_eq_append_getElem hk]
  obtain ⟨hr, hw⟩ := h
  constructor
  · unfold Rise at hr ⊢
    rw [List.pairwise_append]
    refine ⟨hr, by simp, fun x hx y hy => ?_⟩
    rw [List.mem_singleton] at hy
    subst hy
    obtain ⟨j, hj, rfl⟩ := List.mem_iff_getElem.1 hx
    rw [List.length_take] at hj
    have h0 : 0 < k := by omega
    have h4 := h3 h0
    rw [List.getElem_take]
    rcases Nat.lt_or_ge j (k - 1) with hj1 | hj1
    · have h5 := List.pairwise_iff_getElem.1 hr j (k - 1) (by rw [List.length_take]; omega) (by rw [List.length_take]; omega) hj1
      rw [List.getElem_take, List.getElem_take] at h5
      omega
    · have : j = k - 1 := by omega
      subst this
      exact h4
  · intro x hx
    rcases List.mem_append.1 hx with hx | hx
    · exact hw x hx
    · rw [List.mem_singleton] at hx; subst hx; exact ⟨h1, h2⟩
theorem rise_out {lo hi : Int} {l : List Int} {k : Nat} (hk : k < l.length) (h : l[k] < lo ∨ hi < l[k]) : riseB lo hi l = false :=
  riseB_false (fun hh => by have := hh.2 l[k] (List.getElem_mem hk); omega)
theorem rise_fall {lo hi : Int} {l : List Int} {k : Nat} (hk : k < l.length) (h0 : 0 < k) (h : l[k] ≤ l[k - 1]) : riseB lo hi l = false :=
  riseB_false (fun hh => by
    have := List.pairwise_iff_getElem.1 hh.1 (k - 1) k (by omega) hk (by omega)
    omega)

/-- What holds for all and is handed on over a star holds for all that are put in. -/
theorem close_ind {P : Int → Prop} (q : List UInt8) (i : Nat) (l : List Int) (hl : ∀ x ∈ l, P x)
    (hs : ∀ j, j < q.length → q[j]? = some 42 → P ((i + j : Nat) : Int) → P (((i + j : Nat) : Int) + 1)) : ∀ x ∈ closeFrom q i l, P x := by
  induction q generalizing i l with
  | nil => exact hl
  | cons c t ih =>
    unfold closeFrom
    refine ih (i + 1) _ ?_ ?_
    · split
      · rename_i hc
        intro x hx
        rcases mem_put.1 hx with rfl | hx
        · have := hs 0 (by simp) (by simp [hc.1]) (by simpa using hl _ hc.2)
          simpa using this
        · exact hl x hx
      · exact hl
    · intro j hj hq hP
      have e : ((i + 1 + j : Nat) : Int) = ((i + (j + 1) : Nat) : Int) := by omega
      rw [e] at hP ⊢
      exact hs (j + 1) (by simp; omega) (by simpa using hq) hP

theorem close_sub (q : List UInt8) (i : Nat) (l : List Int) {x : Int} (hx : x ∈ l) : x ∈ closeFrom q i l := by
  induction q generalizing i l with
  | nil => exact hx
  | cons c t ih =>
    unfold closeFrom
    apply ih
    split
    · exact mem_put.2 (.inr hx)
    · exact hx

theorem close_below (q : List UInt8) (i : Nat) (l : List Int) {x : Int} (hi : x ≤ i) : x ∈ closeFrom q i l ↔ x ∈ l := by
  induction q generalizing i l with
  | nil => exact Iff.rfl
  | cons c t ih =>
    unfold closeFrom
    rw [ih (i + 1) _ (by omega)]
    split
    · rw [mem_put]; constructor
      · rintro (h | h)
        · omega
        · exact h
      · exact .inr
    · exact Iff.rfl

theorem close_star (q : List UInt8) (i j : Nat) (l : List Int) (hj : q[j]? = some 42) (hx : ((i + j : Nat) : Int) ∈ closeFrom q i l) : ((i + j : Nat) : Int) + 1 ∈ closeFrom q i l := by
  induction q generalizing i j l with
  | nil => simp at hj
  | cons c t ih =>
    unfold closeFrom at hx ⊢
    cases j with
    | zero =>
      simp only [List.getElem?_cons_zero, Option.some.injEq] at hj
      rw [close_below t (i + 1) _ (by omega)] at hx
      have hx2 : (i : Int) ∈ l := by
        split at hx
        · rcases mem_put.1 hx with h | h
          · omega
          · simpa using h
        · simpa using hx
      rw [if_pos ⟨hj, hx2⟩]
      exact close_sub _ _ _ (mem_put.2 (.inl (by simp)))
    | succ j =>
      have e : i + (j + 1) = i + 1 + j := by omega
      rw [e] at hx ⊢
      exact ih (i + 1) j _ (by simpa using hj) hx

theorem close_rise (q : List UInt8) (i : Nat) {l : List Int} (h : Rise l) : Rise (closeFrom q i l) := by
  induction q generalizing i l with
  | nil => exact h
  | cons c t ih =>
    unfold closeFrom
    apply ih
    split
    · exact put_rise h
    · exact h

theorem close_within (p : List UInt8) {l : List Int} (h : Within 0 p.length l) : Within 0 p.length (closeL p l) := by
  refine close_ind (P := fun x => 0 ≤ x ∧ x ≤ p.length) p 0 l h ?_
  intro j hj _ _
  omega

/-- The places that one place gives. -/
theorem mem_step1 {p : List UInt8} {b : UInt8} {out : List Int} {k x : Int} : x ∈ step1 p b out k ↔ x ∈ out ∨ x ∈ step1 p b [] k := by
  unfold step1
  split
  · simp
  · repeat' split
    all_goals simp only [mem_put, List.not_mem_nil, or_false]
    all_goals try exact Or.comm
    all_goals constructor <;> (intro h; rcases h with h | h | h) <;> simp [h]

theorem step1_rise {p : List UInt8} {b : UInt8} {out : List Int} {k : Int} (h : Rise out) : Rise (step1 p b out k) := by
  unfold step1
  split
  · exact h
  · repeat' split
    all_goals first | exact h | exact put_rise (put_rise h) | exact put_rise h

theorem step1_within {p : List UInt8} {b : UInt8} {out : List Int} {k : Int} (h : Within 0 p.length out) (hk : 0 ≤ k) : Within 0 p.length (step1 p b out k) := by
  unfold step1
  split
  · exact h
  · rename_i c hc
    have hlt : k.toNat < p.length := by
      rw [List.getElem?_eq_some_iff] at hc
      exact hc.1
    repeat' split
    all_goals first
      | exact h
      | exact put_within (put_within h (by omega) (by omega)) (by omega) (by omega)
      | exact put_within h (by omega) (by omega)

theorem foldl_mem {p : List UInt8} {b : UInt8} (l : List Int) (out : List Int) {x : Int} : x ∈ l.foldl (step1 p b) out ↔ x ∈ out ∨ ∃ k ∈ l, x ∈ step1 p b [] k := by
  induction l generalizing out with
  | nil => simp
  | cons y t ih =>
    rw [List.foldl_cons, ih, mem_step1]
    simp only [List.mem_cons, exists_eq_or_imp, or_assoc]

theorem mem_out {p : List UInt8} {b : UInt8} {l : List Int} {x : Int} : x ∈ outL p l b ↔ ∃ k ∈ l, x ∈ step1 p b [] k := by
  rw [outL, foldl_mem]; simp

theorem foldl_rise {p : List UInt8} {b : UInt8} (l : List Int) {out : List Int} (h : Rise out) : Rise (l.foldl (step1 p b) out) := by
  induction l generalizing out with
  | nil => exact h
  | cons y t ih => rw [List.foldl_cons]; exact ih (step1_rise h)

theorem foldl_within {p : List UInt8} {b : UInt8} (l : List Int) {out : List Int} (h : Within 0 p.length out) (hl : Within 0 p.length l) : Within 0 p.length (l.foldl (step1 p b) out) := by
  induction l generalizing out with
  | nil => exact h
  | cons y t ih => rw [List.foldl_cons]; exact ih (step1_within h (hl y (by simp)).1) (fun x hx => hl x (by simp [hx]))

theorem step_rise (p : List UInt8) (l : List Int) (b : UInt8) : Rise (stepL p l b) := close_rise _ _ (foldl_rise _ .nil)
theorem step_within {p : List UInt8} {l : List Int} (b : UInt8) (h : Within 0 p.length l) : Within 0 p.length (stepL p l b) :=
  close_within p (foldl_within l (fun _ hx => by simp at hx) h)
theorem start_rise (p : List UInt8) : Rise (startL p) := close_rise _ _ (by simp [Rise])
theorem start_within (p : List UInt8) : Within 0 p.length (startL p) := close_within p (fun x hx => by simp at hx; omega)
theorem run_rise (p s : List UInt8) : Rise (runL p s) := by
  unfold runL
  generalize h : startL p = l
  have hl : Rise l := h ▸ start_rise p
  clear h
  induction s generalizing l with
  | nil => exact hl
  | cons b t ih => exact ih _ (step_rise p l b)
theorem run_within (p s : List UInt8) : Within 0 p.length (runL p s) := by
  unfold runL
  generalize h : startL p = l
  have hl : Within 0 p.length l := h ▸ start_within p
  clear h
  induction s generalizing l with
  | nil => exact hl
  | cons b t ih => exact ih _ (step_within b hl)
theorem rise_len21 {p : List UInt8} {l : List Int} (h : Rise l) (hw : Within 0 p.length l) : l.length ≤ p.length + 1 := by
  have := rise_len h hw (by omega)
  omega

theorem step1_some {p : List UInt8} {k : Nat} {c : UInt8} (h : p[k]? = some c) (b : UInt8) : step1 p b [] (k : Int) =
    if c = 42 then (if b = 47 then [] else [(k : Int)]) else if c = 37 then [(k : Int), (k : Int) + 1] else if c = 63 then (if b = 47 then [] else [(k : Int) + 1]) else if c = b then [(k : Int) + 1] else [] := by
  have h2 : p[(k : Int).toNat]? = some c := h
  unfold step1
  rw [h2]
  have e : putL [(k : Int)] ((k : Int) + 1) = [(k : Int), (k : Int) + 1] := by simp [putL]; omega
  simp only [putL, e]

/-- A pattern, read from its front. -/
def fitM : List UInt8 → List UInt8 → Bool
  | [], s => s.isEmpty
  | c :: p, s =>
    if c = 42 then fitM p s || (match s with
      | [] => false
      | d :: r => !(d == 47) && fitM (c :: p) r)
    else match s with
      | [] => false
      | d :: r =>
        if c = 37 then fitM p r || fitM (c :: p) r
        else if c = 63 then !(d == 47) && fitM p r
        else (d == c) && fitM p r
termination_by p s => p.length + s.length

theorem fitM_nil (s : List UInt8) : fitM [] s = s.isEmpty := by rw [fitM]
theorem fitM_star_nil (p : List UInt8) : fitM (42 :: p) [] = fitM p [] := by rw [fitM]; simp
theorem fitM_star (p : List UInt8) (d : UInt8) (r : List UInt8) : fitM (42 :: p) (d :: r) = (fitM p (d :: r) || !(d == 47) && fitM (42 :: p) r) := by rw [fitM]; simp
theorem fitM_none {c : UInt8} (p : List UInt8) (h : c ≠ 42) : fitM (c :: p) [] = false := by rw [fitM]; simp [h]
theorem fitM_stem (p : List UInt8) (d : UInt8) (r : List UInt8) : fitM (37 :: p) (d :: r) = (fitM p r || fitM (37 :: p) r) := by rw [fitM]; simp
theorem fitM_one (p : List UInt8) (d : UInt8) (r : List UInt8) : fitM (63 :: p) (d :: r) = (!(d == 47) && fitM p r) := by rw [fitM]; simp
theorem fitM_same {c : UInt8} (p : List UInt8) (d : UInt8) (r : List UInt8) (h1 : c ≠ 42) (h2 : c ≠ 37) (h3 : c ≠ 63) : fitM (c :: p) (d :: r) = ((d == c) && fitM p r) := by rw [fitM]; simp [h1, h2, h3]
theorem fitM_skip (p s : List UInt8) (h : fitM p s = true) : fitM (42 :: p) s = true := by
  cases s with
  | nil => rw [fitM_star_nil]; exact h
  | cons d r => rw [fitM_star, h]; rfl

def Closed (p : List UInt8) (l : List Int) : Prop := ∀ j : Nat, p[j]? = some 42 → (j : Int) ∈ l → (j : Int) + 1 ∈ l
theorem closed_close (p : List UInt8) (l : List Int) : Closed p (closeL p l) := by
  intro j hj hx
  have := close_star p 0 j l hj (by simpa [closeL] using hx)
  simpa [closeL] using this

theorem drop_some {p : List UInt8} {k : Nat} {c : UInt8} (h : p[k]? = some c) : p.drop k = c :: p.drop (k + 1) := by
  rw [List.getElem?_eq_some_iff] at h
  obtain ⟨hk, rfl⟩ := h
  rw [List.drop_eq_getElem_cons hk]

theorem at_or {p : List UInt8} {k : Nat} (h : k ≤ p.length) : k = p.length ∨ ∃ c, p[k]? = some c ∧ k < p.length := by
  rcases Nat.lt_or_ge k p.length with h1 | h1
  · exact .inr ⟨p[k], by simp [h1], h1⟩
  · exact .inl (by omega)

theorem acc_nil {p : List UInt8} {l : List Int} (hc : Closed p l) (n : Nat) : ∀ k : Nat, p.length - k = n → k ≤ p.length → (k : Int) ∈ l → fitM (p.drop k) [] = true → (p.length : Int) ∈ l := by
  induction n with
  | zero =>
    intro k h1 h2 h3 _
    have : k = p.length := by omega
    subst this; exact h3
  | succ n ih =>
    intro k h1 h2 h3 h4
    rcases at_or h2 with rfl | ⟨c, hk, hlt⟩
    · omega
    · rw [drop_some hk] at h4
      by_cases h42 : c = 42
      · subst h42
        rw [fitM_star_nil] at h4
        exact ih (k + 1) (by omega) (by omega) (by have := hc k hk h3; simpa using this) h4
      · rw [fitM_none _ h42] at h4; cases h4

theorem acc_step_to {p : List UInt8} {l : List Int} {b : UInt8} {t : List UInt8} (hc : Closed p l) (n : Nat) : ∀ k : Nat, p.length - k = n → k ≤ p.length → (k : Int) ∈ l → fitM (p.drop k) (b :: t) = true →
    ∃ j : Nat, (j : Int) ∈ stepL p l b ∧ fitM (p.drop j) t = true := by
  have put : ∀ (k : Nat) (x : Int), (k : Int) ∈ l → x ∈ step1 p b [] k → x ∈ stepL p l b := fun k x h1 h2 => close_sub _ _ _ (mem_out.2 ⟨k, h1, h2⟩)
  induction n with
  | zero =>
    intro k h1 h2 h3 h4
    have : k = p.length := by omega
    subst this
    simp [fitM_nil] at h4
  | succ n ih =>
    intro k h1 h2 h3 h4
    rcases at_or h2 with rfl | ⟨c, hk, hlt⟩
    · omega
    · have hd := drop_some hk
      rw [hd] at h4
      have hk2 : p[(k : Int).toNat]? = some c := by simpa using hk
      by_cases h42 : c = 42
      · subst h42
        rw [fitM_star, Bool.or_eq_true, Bool.and_eq_true] at h4
        rcases h4 with h4 | ⟨h4, h5⟩
        · exact ih (k + 1) (by omega) (by omega) (by have := hc k hk h3; simpa using this) h4
        · refine ⟨k, put k k h3 ?_, by rw [hd]; exact h5⟩
          have hb : b ≠ 47 := by simpa using h4
          rw [step1_some hk]; simp [hb]
      · by_cases h37 : c = 37
        · subst h37
          rw [fitM_stem, Bool.or_eq_true] at h4
          rcases h4 with h4 | h4
          · exact ⟨k + 1, put k _ h3 (by rw [step1_some hk]; simp), h4⟩
          · exact ⟨k, put k _ h3 (by rw [step1_some hk]; simp), by rw [hd]; exact h4⟩
        · by_cases h63 : c = 63
          · subst h63
            rw [fitM_one, Bool.and_eq_true] at h4
            have hb : b ≠ 47 := by simpa using h4.1
            exact ⟨k + 1, put k _ h3 (by rw [step1_some hk]; simp [hb]), h4.2⟩
          · rw [fitM_same _ _ _ h42 h37 h63, Bool.and_eq_true] at h4
            have hb : c = b := by simpa using (beq_iff_eq.1 h4.1).symm
            exact ⟨k + 1, put k _ h3 (by subst hb; rw [step1_some hk]; simp [h42, h37, h63]), h4.2⟩

theorem acc_step_of {p : List UInt8} {l : List Int} {b : UInt8} {t : List UInt8} (hw : Within 0 p.length l) : ∀ x ∈ stepL p l b, fitM (p.drop x.toNat) t = true → ∃ k : Nat, (k : Int) ∈ l ∧ fitM (p.drop k) (b :: t) = true := by
  refine close_ind (P := fun x => fitM (p.drop x.toNat) t = true → ∃ k : Nat, (k : Int) ∈ l ∧ fitM (p.drop k) (b :: t) = true) p 0 _ ?_ ?_
  · intro x hx0 hf
    obtain ⟨k, hk, hx⟩ := mem_out.1 hx0
    clear hx0
    have hk0 := (hw k hk).1
    refine ⟨k.toNat, by rw [Int.toNat_of_nonneg hk0]; exact hk, ?_⟩
    unfold step1 at hx
    split at hx
    · simp at hx
    · rename_i c hc
      have hd := drop_some hc
      rw [hd]
      have e1 : (k + 1).toNat = k.toNat + 1 := by omega
      split at hx
      · rename_i h; subst h
        split at hx
        · simp at hx
        · rename_i hb
          simp only [mem_put, List.not_mem_nil, or_false] at hx
          subst hx
          rw [hd] at hf
          rw [fitM_star, hf]; simp [hb]
      · rename_i h42
        split at hx
        · rename_i h; subst h
          simp only [mem_put, List.not_mem_nil, or_false] at hx
          rcases hx with rfl | rfl
          · rw [e1] at hf; rw [fitM_stem, hf]; rfl
          · rw [hd] at hf; rw [fitM_stem, hf]; simp
        · rename_i h37
          split at hx
          · rename_i h; subst h
            split at hx
            · simp at hx
            · rename_i hb
              simp only [mem_put, List.not_mem_nil, or_false] at hx
              subst hx
              rw [e1] at hf; rw [fitM_one, hf]; simp [hb]
          · rename_i h63
            split at hx
            · rename_i hb
              simp only [mem_put, List.not_mem_nil, or_false] at hx
              subst hb
              subst hx
              rw [e1] at hf; rw [fitM_same _ _ _ h42 h37 h63, hf]; simp
            · simp at hx
  · intro j hj hq hP hf
    apply hP
    have e1 : (((0 + j : Nat) : Int) + 1).toNat = j + 1 := by omega
    have e2 : ((0 + j : Nat) : Int).toNat = j := by omega
    rw [e1] at hf
    rw [e2, drop_some hq]
    exact fitM_skip _ _ hf

theorem acc_all {p : List UInt8} (s : List UInt8) : ∀ l : List Int, Closed p l → Within 0 p.length l → (((p.length : Int) ∈ s.foldl (stepL p) l) ↔ ∃ k : Nat, (k : Int) ∈ l ∧ fitM (p.drop k) s = true) := by
  induction s with
  | nil =>
    intro l hc hw
    constructor
    · intro h; exact ⟨p.length, h, by simp [fitM_nil]⟩
    · rintro ⟨k, hk, hf⟩
      exact acc_nil hc _ k rfl (by have := (hw _ hk).2; omega) hk hf
  | cons b t ih =>
    intro l hc hw
    rw [List.foldl_cons, ih (stepL p l b) (closed_close p _) (step_within b hw)]
    constructor
    · rintro ⟨k, hk, hf⟩
      exact acc_step_of hw k hk (by simpa using hf)
    · rintro ⟨k, hk, hf⟩
      exact acc_step_to hc _ k rfl (by have := (hw _ hk).2; omega) hk hf

/-- Places and the reading from the front tell the same. -/
theorem fits_fitM (p s : List UInt8) : fitsL p s = fitM p s := by
  rw [Bool.eq_iff_iff, fitsL, hasL, decide_eq_true_iff, runL, acc_all s (startL p) (closed_close p _) (start_within p)]
  constructor
  · rintro ⟨k, hk, hf⟩
    have h : ∀ x ∈ startL p, fitM (p.drop x.toNat) s = true → fitM p s = true := by
      refine close_ind (P := fun x => fitM (p.drop x.toNat) s = true → fitM p s = true) p 0 [0] ?_ ?_
      · intro x hx; simp only [List.mem_singleton] at hx; subst hx; simp
      · intro j hj hq hP hf
        apply hP
        have e1 : (((0 + j : Nat) : Int) + 1).toNat = j + 1 := by omega
        have e2 : ((0 + j : Nat) : Int).toNat = j := by omega
        rw [e1] at hf
        rw [e2, drop_some hq]
        exact fitM_skip _ _ hf
    exact h k hk (by simpa using hf)
  · intro h
    exact ⟨0, close_sub _ _ _ (by simp), by simpa using h⟩

/-- No star, no question mark, no percent sign. -/
def plainB (c : UInt8) : Bool := !(c == 42) && !(c == 63) && !(c == 37)
theorem pb_plain {c : UInt8} (h : pb (c.toNat : Int) = true) : plainB c = true := by
  have h42 : c ≠ 42 := by rintro rfl; exact absurd h (by decide)
  have h63 : c ≠ 63 := by rintro rfl; exact absurd h (by decide)
  have h37 : c ≠ 37 := by rintro rfl; exact absurd h (by decide)
  simp [plainB, h42, h63, h37]
theorem plain_pb {c : UInt8} (h : patB c = true) (hp : plainB c = true) : pb (c.toNat : Int) = true := by
  simp only [plainB, Bool.and_eq_true, Bool.not_eq_true'] at hp
  simpa [patB, hp.1.1, hp.1.2, hp.2] using h
theorem plain_fit {p : List UInt8} (h : p.all plainB = true) (s : List UInt8) : fitM p s = decide (s = p) := by
  induction p generalizing s with
  | nil => rw [fitM_nil]; cases s <;> simp
  | cons c t ih =>
    rw [List.all_cons, Bool.and_eq_true] at h
    obtain ⟨hc, ht⟩ := h
    simp only [plainB, Bool.and_eq_true, Bool.not_eq_true', beq_eq_false_iff_ne] at hc
    cases s with
    | nil => rw [fitM_none _ hc.1.1]; simp
    | cons d r => rw [fitM_same _ _ _ hc.1.1 hc.2 hc.1.2, ih ht, Bool.eq_iff_iff]; simp
theorem path_fit {p s : List UInt8} (h : okL p = true) : fitsL p s = decide (s = p) := by
  rw [fits_fitM, plain_fit]
  rw [List.all_eq_true]
  intro c hc
  exact pb_plain (by rw [okL, List.all_eq_true] at h; exact h c hc)

/-- Where the one percent sign stands. -/
def stemFrom : List UInt8 → Nat → Int → Int
  | [], _, k => k
  | c :: t, i, k => if c = 42 ∨ c = 63 then -1 else if c = 37 then (if 0 ≤ k then -1 else stemFrom t (i + 1) i) else stemFrom t (i + 1) k
def stemAt (p : List UInt8) : Int := stemFrom p 0 (-1)

theorem stem_found (q : List UInt8) (i k : Nat) : stemFrom q i k = if q.all plainB then (k : Int) else -1 := by
  induction q generalizing i with
  | nil => rfl
  | cons c t ih =>
    unfold stemFrom
    by_cases h1 : c = 42 ∨ c = 63
    · rw [if_pos h1]; rcases h1 with rfl | rfl <;> simp [plainB]
    · rw [if_neg h1]
      by_cases h2 : c = 37
      · subst h2; simp [plainB]
      · rw [if_neg h2, ih]
        have : plainB c = true := by simp only [not_or] at h1; simp [plainB, h1.1, h1.2, h2]
        rw [List.all_cons, this, Bool.true_and]

theorem stem_split (q : List UInt8) (i : Nat) : stemFrom q i (-1) = -1 ∨ ∃ a b, q = a ++ 37 :: b ∧ stemFrom q i (-1) = ((i + a.length : Nat) : Int) ∧ a.all plainB = true ∧ b.all plainB = true := by
  induction q generalizing i with
  | nil => exact .inl rfl
  | cons c t ih =>
    unfold stemFrom
    by_cases h1 : c = 42 ∨ c = 63
    · rw [if_pos h1]; exact .inl rfl
    · rw [if_neg h1]
      by_cases h2 : c = 37
      · subst h2
        rw [if_pos rfl, if_neg (by decide), stem_found]
        by_cases h3 : t.all plainB = true
        · rw [if_pos h3]; exact .inr ⟨[], t, rfl, by simp, rfl, h3⟩
        · rw [if_neg h3]; exact .inl rfl
      · rw [if_neg h2]
        rcases ih (i + 1) with h | ⟨a, b, rfl, h, ha, hb⟩
        · exact .inl h
        · refine .inr ⟨c :: a, b, rfl, by rw [h]; simp; omega, ?_, hb⟩
          simp only [not_or] at h1
          rw [List.all_cons, ha]; simp [plainB, h1.1, h1.2, h2]

theorem stem_cases (p : List UInt8) : stemAt p = -1 ∨ ∃ a b, p = a ++ 37 :: b ∧ stemAt p = (a.length : Int) ∧ a.all plainB = true ∧ b.all plainB = true := by
  have := stem_split p 0
  simpa [stemAt] using this

theorem front_fit {a : List UInt8} (ha : a.all plainB = true) (q s : List UInt8) : fitM (a ++ q) s = true ↔ ∃ r, s = a ++ r ∧ fitM q r = true := by
  induction a generalizing s with
  | nil => simp
  | cons c t ih =>
    rw [List.all_cons, Bool.and_eq_true] at ha
    obtain ⟨hc, ht⟩ := ha
    simp only [plainB, Bool.and_eq_true, Bool.not_eq_true', beq_eq_false_iff_ne] at hc
    cases s with
    | nil => rw [List.cons_append, fitM_none _ hc.1.1]; simp
    | cons d r =>
      rw [List.cons_append, fitM_same _ _ _ hc.1.1 hc.2 hc.1.2, Bool.and_eq_true, ih ht, beq_iff_eq]
      constructor
      · rintro ⟨rfl, r', rfl, h⟩; exact ⟨r', rfl, h⟩
      · rintro ⟨r', h, h2⟩
        rw [List.cons_append, List.cons.injEq] at h
        exact ⟨h.1, r', h.2, h2⟩

theorem back_fit {b : List UInt8} (hb : b.all plainB = true) (s : List UInt8) : fitM (37 :: b) s = true ↔ ∃ t, t ≠ [] ∧ s = t ++ b := by
  induction s with
  | nil => rw [fitM_none _ (by decide)]; simp; exact fun x h1 h2 => absurd h2 h1
  | cons d r ih =>
    rw [fitM_stem, Bool.or_eq_true, ih, plain_fit hb, decide_eq_true_iff]
    constructor
    · rintro (rfl | ⟨t, ht, rfl⟩)
      · exact ⟨[d], by simp, rfl⟩
      · exact ⟨d :: t, by simp, rfl⟩
    · rintro ⟨t, ht, h⟩
      cases t with
      | nil => exact absurd rfl ht
      | cons e u =>
        rw [List.cons_append, List.cons.injEq] at h
        cases u with
        | nil => exact .inl (by simpa using h.2)
        | cons f v => exact .inr ⟨f :: v, by simp, h.2⟩

/-- A pattern with one percent sign fits what it is filled to. -/
theorem stem_fit {a b : List UInt8} (ha : a.all plainB = true) (hb : b.all plainB = true) (s : List UInt8) : fitsL (a ++ 37 :: b) s = true ↔ ∃ t, t ≠ [] ∧ s = a ++ t ++ b := by
  rw [fits_fitM, front_fit ha]
  constructor
  · rintro ⟨r, rfl, h⟩
    obtain ⟨t, ht, rfl⟩ := (back_fit hb r).1 h
    exact ⟨t, ht, by simp⟩
  · rintro ⟨t, ht, rfl⟩
    exact ⟨t ++ b, by simp, (back_fit hb _).2 ⟨t, ht, rfl⟩⟩

end Pth
end Go.Proofs.YtgolhfmmlanmlaaGreatDoor

/- Lists of cells: read wherever they lie, put behind one of the call's own. -/
namespace Go.Proofs.YtgolhfmmlanmlaaGreatDoor
open Go.RowKit Pth

theorem ret_bool {a b : Bool} (h : a = b) : Ending.returned (.bool a) = .returned (.bool b) := by rw [h]

theorem lt_of_block {w : World} {b : Nat} {o : Obj} (h : w.heap[b]? = some o) : b < w.heap.size := by
  rcases Nat.lt_or_ge b w.heap.size with h' | h'
  · exact h'
  · rw [Array.getElem?_eq_none h'] at h; cases h

theorem one_new (w : World) (x : Value) (t : TypeId) : ∀ j u, [x][j]? = some u → (w.alloc (.cells #[x] t)).cell? ((⟨w.heap.size, 0, none⟩ : Addr).add j) = some u := by
  intro j u hj
  match j, hj with
  | 0, hj => simp at hj; subst hj; simp [Addr.add]

theorem own_slice {w : World} {B e n : Nat} {v : Value} {xs : List Value} (h : w.ownsRow B e 1 v n xs) : ∃ a c, v = .slice a n c := by
  rcases h.2 with ⟨hv, h0⟩ | ⟨g, cap, cur, hv, _⟩
  · exact ⟨none, 0, by rw [hv, h0]⟩
  · exact ⟨_, _, hv⟩

theorem add_addr (g o k : Nat) : (⟨g, o, none⟩ : Addr).add k = ⟨g, o + k, none⟩ := by unfold Addr.add; split <;> simp_all

theorem addr_inj {g o g' o' : Nat} (h : (some (⟨g, o, none⟩ : Addr)) = some ⟨g', o', none⟩) : g = g' ∧ o = o' := by
  injection h with h
  injection h with h1 h2
  exact ⟨h1, h2⟩

/-- A slice that reads as a list of cells, wherever it lies. -/
def RowV (w : World) (v : Value) (xs : List Value) : Prop :=
  ∃ a c, v = .slice a xs.length c ∧ xs.length ≤ c ∧ c ≤ maxLen ∧ ∀ k (hk : k < xs.length), ∃ g o, a = some ⟨g, o, none⟩ ∧ g < w.heap.size ∧ w.cell? ⟨g, o + k, none⟩ = some xs[k]

theorem RowV.of_own {w : World} {B e n : Nat} {v : Value} {xs : List Value} (h : w.ownsRow B e 1 v n xs) : RowV w v xs := by
  have hn : xs.length = n := by have := h.1; omega
  rcases h.2 with ⟨hv, h0⟩ | ⟨g, cap, cur, hv, hB, hh, hnc, hcm, hsz, htake⟩
  · refine ⟨none, 0, by rw [hv, hn, h0], by omega, by unfold maxLen; omega, fun k hk => by omega⟩
  · refine ⟨some ⟨g, 0, none⟩, cap, by rw [hv, hn], by omega, hcm, fun k hk => ⟨g, 0, rfl, lt_of_block hh, ?_⟩⟩
    have := h.cells (g := g) (by rw [hv]; rfl) k xs[k] (by simp [hk])
    rw [add_addr] at this
    exact this
theorem RowV.alloc {w : World} {v : Value} {xs : List Value} (h : RowV w v xs) (o : Obj) : RowV (w.alloc o) v xs := by
  obtain ⟨a, c, hv, h1, h2, hat⟩ := h
  refine ⟨a, c, hv, h1, h2, fun k hk => ?_⟩
  obtain ⟨g, o', ha, hg, hc⟩ := hat k hk
  exact ⟨g, o', ha, by simp; omega, by rw [World.cell?_alloc_lt _ _ _ hg]; exact hc⟩
theorem RowV.below {w w' : World} {v : Value} {xs : List Value} (h : RowV w v xs) (hb : Below w.heap.size w w') : RowV w' v xs := by
  obtain ⟨a, c, hv, h1, h2, hat⟩ := h
  refine ⟨a, c, hv, h1, h2, fun k hk => ?_⟩
  obtain ⟨g, o', ha, hg, hc⟩ := hat k hk
  exact ⟨g, o', ha, by have := hb.size; omega, by rw [hb.cell (p := ⟨g, o' + k, none⟩) hg]; exact hc⟩
/-- The front of it. -/
theorem RowV.front {w : World} {a : Option Addr} {c : Nat} {xs : List Value} (h : RowV w (.slice a xs.length c) xs) (k : Nat) (hk : k ≤ xs.length) : RowV w (.slice a k c) (xs.take k) := by
  obtain ⟨a', c', hv, h1, h2, hat⟩ := h
  injection hv with e1 e2 e3
  subst e1 e3
  have hl : (xs.take k).length = k := by rw [List.length_take]; omega
  refine ⟨a, c, by rw [hl], by omega, h2, fun j hj => ?_⟩
  obtain ⟨g, o, ha, hg, hc⟩ := hat j (by omega)
  exact ⟨g, o, ha, hg, by rw [List.getElem_take]; exact hc⟩
/-- What is behind k of it. -/
theorem RowV.back {w : World} {a : Option Addr} {c : Nat} {xs : List Value} (h : RowV w (.slice a xs.length c) xs) (k : Nat) (hk : k ≤ xs.length) :
    RowV w (.slice (if c = k then a else a.map (·.add (k * 1))) (xs.length - k) (c - k)) (xs.drop k) := by
  obtain ⟨a', c', hv, h1, h2, hat⟩ := h
  injection hv with e1 e2 e3
  subst e1 e3
  refine ⟨_, _, by rw [List.length_drop], by rw [List.length_drop]; omega, by omega, fun j hj => ?_⟩
  rw [List.length_drop] at hj
  obtain ⟨g, o, ha, hg, hcell⟩ := hat (k + j) (by omega)
  refine ⟨g, o + k, ?_, hg, ?_⟩
  · rw [if_neg (by omega), ha, Option.map_some, add_addr, Nat.mul_one]
  · rw [List.getElem_drop, Nat.add_assoc]; exact hcell

/-- The element type of a slice type, its zero and its size. -/
structure Elem (t e : TypeId) (z : Value) (bytes : Nat) : Prop where
  under : Tryz.prog.underlying t = some (.slice e)
  info : (Tryz.prog.info? e).map (fun i => (i.zero, i.size, i.bytes)) = some (some z, 1, bytes)
  one : z.cells.size = 1
  small : bytes ≤ 100

theorem info_parts {e : TypeId} {z : Value} {s b : Nat} (h : (Tryz.prog.info? e).map (fun i => (i.zero, i.size, i.bytes)) = some (some z, s, b)) :
    ∃ i, Tryz.prog.info? e = some i ∧ i.zero = some z ∧ i.size = s ∧ i.bytes = b := by
  obtain ⟨i, hi, he⟩ := Option.map_eq_some_iff.1 h
  simp only [Prod.mk.injEq] at he
  exact ⟨i, hi, he.1, he.2.1, he.2.2⟩

theorem run_app_none {t e : TypeId} {z : Value} {bytes : Nat} (E : Elem t e z bytes) (w : World) (B n c : Nat) (ty : TypeId) (v : Value) (xs : List Value) (hown : w.ownsRow B e 1 v n xs) :
    (Builtin.append_ #[t, t] ty #[v, .slice none 0 c]).run Tryz.prog w = .ok v w := by
  obtain ⟨i0, hi, hz0, hz1, hz2⟩ := info_parts E.info
  rcases hown.2 with ⟨rfl, rfl⟩ | ⟨g, cap, cur, rfl, _, _, hnc, _⟩
  · simp [Builtin.append_, run_underlying E.under, sizeOf, typeInfo, hi, Builtin.lenOf, Builtin.firstCells]
  · simp [Builtin.append_, run_underlying E.under, sizeOf, typeInfo, hi, Builtin.lenOf, Builtin.firstCells, hnc, storeCells]

theorem run_app_row {t e : TypeId} {z : Value} {bytes : Nat} (E : Elem t e z bytes) (w : World) (B : Nat) (ty : TypeId) (v : Value) (xs ys : List Value) (A : Option Addr) (c : Nat) (hown : w.ownsRow B e 1 v xs.length xs) (hrow : RowV w (.slice A ys.length c) ys)
    (hone : ∀ u ∈ ys, u.oneCell' = true) (hlen : xs.length + ys.length ≤ 1000000) (hB : B ≤ w.heap.size) :
    ∃ v' w', (Builtin.append_ #[t, t] ty #[v, .slice A ys.length c]).run Tryz.prog w = .ok v' w' ∧ w'.ownsRow B e 1 v' (xs ++ ys).length (xs ++ ys) ∧ w.grownBy w' v.ownBlock := by
  obtain ⟨i0, hi, hz0, hz1, hz2⟩ := info_parts E.info
  obtain ⟨A', c', hv, h1, h2, hat⟩ := hrow
  injection hv with hA _ _
  subst hA
  have go : ∀ ad : Addr, (∀ j u, ys[j]? = some u → w.cell? (ad.add j) = some u) → ∃ v' w', (Builtin.append_ #[t, t] ty #[v, .slice (some ad) ys.length c]).run Tryz.prog w = .ok v' w' ∧ w'.ownsRow B e 1 v' (xs ++ ys).length (xs ++ ys) ∧ w.grownBy w' v.ownBlock := by
    intro ad hc
    obtain ⟨v', w', h1, h2, h3, _⟩ := run_append_own (P := Tryz.prog) w B t ty e i0 z 1 bytes E.under hi hz0 hz1 hz2 E.one (by decide) v xs.length xs hown ad ys.length c ys (by omega) hc hone (by unfold maxLen; omega)
      (Nat.le_trans (Nat.mul_le_mul hlen E.small) (by decide)) hB
    exact ⟨v', w', h1, by rw [List.length_append]; exact h2, h3⟩
  rcases ys with _ | ⟨p, q⟩
  · rcases A with _ | ad
    · exact ⟨v, w, run_app_none E w B xs.length c ty v xs hown, by simpa using hown, ⟨rfl, rfl, rfl, Nat.le_refl _, fun _ _ _ => rfl⟩⟩
    · exact go ad (fun j u hu => by simp at hu)
  · obtain ⟨g, o, rfl, _, _⟩ := hat 0 (by simp)
    refine go _ (fun j u hu => ?_)
    obtain ⟨hj, hu⟩ := List.getElem?_eq_some_iff.1 hu
    obtain ⟨g', o', he, _, hc⟩ := hat j hj
    obtain ⟨rfl, rfl⟩ := addr_inj he
    rw [add_addr, hc, hu]

/-- A list put behind one of the call's own. -/
theorem wpAppRow {t e : TypeId} {z : Value} {bytes : Nat} (E : Elem t e z bytes) {ops : Array Oper} {rest : List Oper} {o : Oper} {a : Act} {Q : Exit → Act → World → Prop} {w : World} (hgd : o.guard = none) (s x : Operand)
    (ho : o.op = .call { callee := .builtin .append, args := #[s, x], argTypes := #[t, t] })
    (B : Nat) (v : Value) (xs ys : List Value) (u : Value) (hs : a.eval s = v) (hown : w.ownsRow B e 1 v xs.length xs) (hx : a.eval x = u) (hrow : RowV w u ys)
    (hone : ∀ u ∈ ys, u.oneCell' = true) (hlen : xs.length + ys.length ≤ 1000000) (hB : B ≤ w.heap.size)
    (h : ∀ v' w', w'.ownsRow B e 1 v' (xs ++ ys).length (xs ++ ys) → w.grownBy w' v.ownBlock → wpList Tryz.prog ops Q rest (a.put o.dst v') w') :
    wpList Tryz.prog ops Q (o :: rest) a w := by
  refine wpList_plain hgd fun K hK => ?_
  obtain ⟨A, c, hu, _⟩ := id hrow
  subst hu
  obtain ⟨v', w', hrun, h2, h3⟩ := run_app_row E w B o.type v xs ys A c hown hrow hone hlen hB
  unfold Oper.wp execOp
  simp only [ho, resolve, invoke, builtin, Sem.run_bind, Sem.run_pure, Result.andThen_ok, List.map_toArray, List.map_cons, List.map_nil, hs, hx, hrun]
  exact hK _ _ (h v' w' h2 h3)

/-- One cell put behind a list of the call's own. -/
theorem wpAppOne {t e : TypeId} {z : Value} {bytes : Nat} (E : Elem t e z bytes) {ops : Array Oper} {rest : List Oper} {o : Oper} {a : Act} {Q : Exit → Act → World → Prop} {w : World} {y : Value} (hgd : o.guard = none) (s x : Operand)
    (ho : o.op = .call { callee := .builtin .append, args := #[s, x], argTypes := #[t, t] })
    (B : Nat) (v : Value) (xs : List Value) (hs : a.eval s = v) (hown : w.ownsRow B e 1 v xs.length xs) (N : Nat) (hx : a.eval x = .slice (some ⟨N, 0, none⟩) 1 1) (hN : N = w.heap.size) (hone : y.oneCell' = true)
    (hlen : xs.length ≤ 1000000) (hB : B ≤ w.heap.size)
    (h : ∀ v' w', w'.ownsRow B e 1 v' (xs ++ [y]).length (xs ++ [y]) → w.grownBy w' v.ownBlock → wpList Tryz.prog ops Q rest (a.put o.dst v') w') :
    wpList Tryz.prog ops Q (o :: rest) a (w.alloc (.cells #[y] e)) := by
  subst hN
  obtain ⟨i0, hi, hz0, hz1, hz2⟩ := info_parts E.info
  refine wpList_append_own _ hgd s x t ho B e i0 z 1 bytes E.under hi hz0 hz1 hz2 E.one (by decide) v xs.length xs hs (hown.alloc _) ⟨w.heap.size, 0, none⟩ 1 1 [y] hx rfl (one_new w _ _) ?_ ?_ ?_ ?_ ?_
  · intro u hu; simp at hu; subst hu; exact hone
  · unfold maxLen; omega
  · exact Nat.le_trans (Nat.mul_le_mul (Nat.add_le_add_right hlen 1) E.small) (by decide)
  · simp; omega
  · intro v' w' h1 h2 _
    have hg : w.grownBy w' v.ownBlock := ⟨h2.os, h2.tape, h2.output, Nat.le_trans (by simp) h2.size, fun k hk hne => (h2.block k (by simp; omega) hne).trans (Below.heap_alloc _ _ _ hk)⟩
    exact h v' w' (by simpa using h1) hg

theorem below_own {w w' : World} {B e n : Nat} {v : Value} {xs : List Value} (hown : w.ownsRow B e 1 v n xs) (hg : w.grownBy w' v.ownBlock) (hB : B ≤ w.heap.size) : Below B w w' :=
  (Below.refl B w).grown hg hB (fun k hk => (hown.lt k hk).1)

theorem below_drewN {B : Nat} {a w : World} (h : Below B a w) (n : Nat) : Below B a (w.drewN n) := ⟨h.os, h.tape, h.output, h.size, h.block⟩

theorem own_base {w : World} {B B' e n : Nat} {v : Value} {xs : List Value} (h : w.ownsRow B e 1 v n xs) (hB : B' ≤ B) : w.ownsRow B' e 1 v n xs := by
  refine ⟨h.1, ?_⟩
  rcases h.2 with h0 | ⟨g, cap, cur, hv, hg, r⟩
  · exact .inl h0
  · exact .inr ⟨g, cap, cur, hv, by omega, r⟩

theorem own_below {w w' : World} {B e n : Nat} {v : Value} {xs : List Value} (h : w.ownsRow B e 1 v n xs) (hb : Below w.heap.size w w') : w'.ownsRow B e 1 v n xs := by
  refine ⟨h.1, ?_⟩
  rcases h.2 with h0 | ⟨g, cap, cur, hv, hg, hh, r⟩
  · exact .inl h0
  · exact .inr ⟨g, cap, cur, hv, hg, (hb.block g (lt_of_block hh)).trans hh, r⟩

/-- Numbers as cells. -/
def I (l : List Int) : List Value := l.map fun x => .int .i64 x
theorem I_len (l : List Int) : (I l).length = l.length := by simp [I]
theorem I_append (a b : List Int) : I (a ++ b) = I a ++ I b := by simp [I]
theorem I_one (l : List Int) : ∀ u ∈ I l, u.oneCell' = true := by
  intro u hu
  simp only [I, List.mem_map] at hu
  obtain ⟨x, _, rfl⟩ := hu
  rfl
theorem I_take (l : List Int) (k : Nat) : (I l).take k = I (l.take k) := by simp [I, List.map_take]
theorem I_drop (l : List Int) (k : Nat) : (I l).drop k = I (l.drop k) := by simp [I, List.map_drop]

theorem RowV.ints {w : World} {v : Value} {l : List Int} (h : RowV w v (I l)) :
    ∃ a c, v = .slice a l.length c ∧ l.length ≤ c ∧ c ≤ maxLen ∧ ∀ k (hk : k < l.length), ∃ g o, a = some ⟨g, o, none⟩ ∧ g < w.heap.size ∧ w.cell? ⟨g, o + k, none⟩ = some (.int .i64 l[k]) := by
  obtain ⟨a, c, hv, h1, h2, hat⟩ := h
  refine ⟨a, c, by rw [hv, I_len], by rw [I_len] at h1; exact h1, h2, fun k hk => ?_⟩
  obtain ⟨g, o, ha, hg, hc⟩ := hat k (by rw [I_len]; exact hk)
  exact ⟨g, o, ha, hg, by rw [hc]; simp [I]⟩

/-- Texts as cells. -/
def S (l : List (List UInt8)) : List Value := l.map fun x => .string ⟨x.toArray⟩
theorem S_len (l : List (List UInt8)) : (S l).length = l.length := by simp [S]
theorem S_append (a b : List (List UInt8)) : S (a ++ b) = S a ++ S b := by simp [S]
theorem S_one (l : List (List UInt8)) : ∀ u ∈ S l, u.oneCell' = true := by
  intro u hu
  simp only [S, List.mem_map] at hu
  obtain ⟨x, _, rfl⟩ := hu
  rfl

theorem RowV.texts {w : World} {v : Value} {l : List (List UInt8)} (h : RowV w v (S l)) :
    ∃ a c, v = .slice a l.length c ∧ l.length ≤ c ∧ c ≤ maxLen ∧ ∀ k (hk : k < l.length), ∃ g o, a = some ⟨g, o, none⟩ ∧ g < w.heap.size ∧ w.cell? ⟨g, o + k, none⟩ = some (.string ⟨(l[k]).toArray⟩) := by
  obtain ⟨a, c, hv, h1, h2, hat⟩ := h
  refine ⟨a, c, by rw [hv, S_len], by rw [S_len] at h1; exact h1, h2, fun k hk => ?_⟩
  obtain ⟨g, o, ha, hg, hc⟩ := hat k (by rw [S_len]; exact hk)
  exact ⟨g, o, ha, hg, by rw [hc]; simp [S]⟩

theorem text_snoc {w : World} {B e : Nat} {v : Value} {l : List (List UInt8)} {x : List UInt8} (h : w.ownsRow B e 1 v (S l ++ [Value.string ⟨x.toArray⟩]).length (S l ++ [Value.string ⟨x.toArray⟩])) : w.ownsRow B e 1 v (l ++ [x]).length (S (l ++ [x])) := by
  rw [S_append, ← S_len (l ++ [x]), S_append]; exact h

theorem elemI : Elem 23 3 (.int .i64 0) 8 := ⟨Tryz.underlying23, by kernel_rfl, rfl, by decide⟩
theorem elemS : Elem 31 9 (.string ByteArray.empty) 16 := ⟨Tryz.underlying31, by kernel_rfl, rfl, by decide⟩

theorem extract_mid (s : ByteArray) (f k : Nat) : s.extract f k = ⟨(mid s.data.toList f k).toArray⟩ := by
  apply ByteArray.ext
  apply Array.ext'
  simp [mid, ByteArray.data_extract, List.extract_eq_take_drop, List.drop_take]
theorem run_one_byte (c : UInt8) (w : World) : (convert 130 9 (.slice (some ⟨w.heap.size, 0, none⟩) 1 1)).run Tryz.prog (w.alloc (.cells #[.int .u8 (c.toNat : Int)] 5)) = .ok (.string ⟨#[c]⟩) (w.alloc (.cells #[.int .u8 (c.toNat : Int)] 5)) :=
  run_convert_bytes_back _ 130 9 5 ⟨w.heap.size, 0, none⟩ 1 [c] Tryz.underlying130 Tryz.underlying5 Tryz.underlying9 (fun j hj => by
    have hj0 : j = 0 := by simp at hj; omega
    subst hj0
    exact one_new w _ _ 0 _ rfl)

end Go.Proofs.YtgolhfmmlanmlaaGreatDoor

/- Walks: a number between two, a number put to its place (as chapter 2 has them). -/
namespace Go.Proofs.YtgolhfmmlanmlaaGreatDoor
open Go.RowKit Pth

set_option maxHeartbeats 400000 in
theorem l1In_any (n lo hi : Int) (w : World) :
    Calls Tryz.prog 124 #[.int .i64 n, .int .i64 lo, .int .i64 hi] w fun e w' => e = .returned (.bool (decide (lo ≤ n) && decide (n ≤ hi))) ∧ w = w' := by
  go_enter Tryz.func124, Tryz.ntmps124
  go_wp2
  all_goals
    go_ret
    exact ⟨ret_bool (by rw [Bool.eq_iff_iff]; simp <;> omega), rfl⟩


theorem put_start (l : List Int) (n : Int) : putL l n = l.take 0 ++ putL (l.drop 0) n := by simp
theorem put_less {l : List Int} {n : Int} {k : Nat} (hk : k < l.length) (h : putL l n = l.take k ++ putL (l.drop k) n) (hx : l[k] < n) : putL l n = l.take (k + 1) ++ putL (l.drop (k + 1)) n := by
  rw [h, List.drop_eq_getElem_cons hk, putL, if_pos hx, List.take_succ_eq_append_getElem hk, List.append_assoc, List.singleton_append]
theorem put_there {l : List Int} {n : Int} {k : Nat} (hk : k < l.length) (h : putL l n = l.take k ++ putL (l.drop k) n) (hx : l[k] = n) : putL l n = l := by
  rw [h, List.drop_eq_getElem_cons hk, putL, if_neg (by omega), if_pos hx, ← List.drop_eq_getElem_cons hk]; simp
theorem put_new {l : List Int} {n : Int} {k : Nat} (h : putL l n = l.take k ++ putL (l.drop k) n) (hx : ∀ hk : k < l.length, n < l[k]) : putL l n = (l.take k ++ [n]) ++ l.drop k := by
  rw [h]
  by_cases hk : k < l.length
  · have := hx hk
    rw [List.drop_eq_getElem_cons hk, putL, if_neg (by omega), if_neg (by omega)]; simp
  · rw [List.drop_of_length_le (by omega)]; simp [putL]
theorem put_len (l : List Int) (n : Int) : (putL l n).length ≤ l.length + 1 := by
  induction l with
  | nil => simp [putL]
  | cons x t ih =>
    unfold putL
    split
    · simp only [List.length_cons]; omega
    · split <;> simp

theorem put_first {w : World} {B e : Nat} {v : Value} {l : List Int} (h : w.ownsRow B e 1 v ([] ++ I l).length ([] ++ I l)) : w.ownsRow B e 1 v (I l).length (I l) := h
theorem put_second {w : World} {B e : Nat} {v : Value} {l : List Int} {n : Int} (h : w.ownsRow B e 1 v (I l ++ [Value.int .i64 n]).length (I l ++ [Value.int .i64 n])) : w.ownsRow B e 1 v (I (l ++ [n])).length (I (l ++ [n])) := by
  rw [I_append]; exact h
theorem put_third {w : World} {B e : Nat} {v : Value} {l m r : List Int} (h : w.ownsRow B e 1 v (I l ++ I m).length (I l ++ I m)) (hr : r = l ++ m) : w.ownsRow B e 1 v r.length (I r) := by
  rw [← I_append, I_len] at h; rw [hr]; exact h

/-- A slice of numbers cut from k on. -/
theorem run_cutI (a : Option Addr) (n c k : Nat) (hk : k ≤ n) (_hc : n ≤ c) (W : World) :
    (Instr.slice 23 (.slice a n c) (some (.int .i64 (k : Int))) none none).run Tryz.prog W = .ok (.slice (if c = k then a else a.map (·.add (k * 1))) (n - k) (c - k)) W := by
  have h1 : (k : Int) ≤ n := by omega
  by_cases h : c = k
  · go_simp
  · go_simp

theorem cutI {w : World} {a : Option Addr} {l : List Int} {cap k : Nat} (h : RowV w (.slice a l.length cap) (I l)) (hk : k ≤ l.length) (hc : l.length ≤ cap) :
    RowV w (.slice a k cap) (I (l.take k)) ∧ ∃ A1, (∀ W, (Instr.slice 23 (.slice a l.length cap) (some (.int .i64 (k : Int))) none none).run Tryz.prog W = .ok (.slice A1 (l.length - k) (cap - k)) W) ∧ RowV w (.slice A1 (l.length - k) (cap - k)) (I (l.drop k)) := by
  have r0 : RowV w (.slice a (I l).length cap) (I l) := by rw [I_len]; exact h
  have hF := r0.front k (by rw [I_len]; omega)
  have hD := r0.back k (by rw [I_len]; omega)
  rw [I_take] at hF
  rw [I_drop, I_len] at hD
  exact ⟨hF, _, run_cutI a l.length cap k hk hc, hD⟩

/-- A list of numbers is handed back, in memory of the call's own where it was so. -/
def IntsPost (B : Nat) (l : List Int) (w : World) (e : Ending) (w' : World) : Prop :=
  ∃ v, e = .returned v ∧ w'.ownsRow B 3 1 v l.length (I l) ∧ Below w.heap.size w w'

end Go.Proofs.YtgolhfmmlanmlaaGreatDoor

/- Walks: the laws' helpers on lists of texts, by themselves (no lists of numbers). -/
namespace Go.Proofs.YtgolhfmmlanmlaaGreatDoor
open Go.RowKit Pth

/-- A new list of so many zeros. -/
theorem make_row {t e : TypeId} {z : Value} {bytes : Nat} (E : Elem t e z bytes) (hz : z.cells = #[z]) (n : Nat) (w : World) (hn : n ≤ 2000000) :
    ∃ w', (Instr.makeSlice t (.int .i64 (n : Int)) (.int .i64 (n : Int))).run Tryz.prog w = .ok (.slice (some ⟨w.heap.size, 0, none⟩) n n) w' ∧
      w'.ownsRow w.heap.size e 1 (.slice (some ⟨w.heap.size, 0, none⟩) n n) n (List.replicate n z) ∧ Below w.heap.size w w' := by
  obtain ⟨i0, hi, hz0, hz1, hz2⟩ := info_parts E.info
  obtain ⟨w', h1, h2, h3⟩ := run_makeSlice_full (P := Tryz.prog) w w.heap.size t e i0 z 1 E.under hi hz0 hz1 .i64 .i64 n (by omega) (by rw [hz2]; exact Nat.le_trans (Nat.mul_le_mul E.small hn) (by decide)) (by unfold maxLen; omega) (Nat.le_refl _)
  rw [hz, Nat.mul_one, toList_madeCells_one] at h2
  exact ⟨w', h1, h2, (Below.refl _ w).grown h3 (Nat.le_refl _) (fun k hk => by cases hk)⟩

theorem set_row (xs : List Value) (z : Value) (k : Nat) (hk : k < xs.length) : (xs.take k ++ List.replicate (xs.length - k) z).set k xs[k] = xs.take (k + 1) ++ List.replicate (xs.length - (k + 1)) z := by
  have e : xs.length - k = (xs.length - (k + 1)) + 1 := by omega
  rw [e, List.replicate_succ, List.set_append_right _ _ (by rw [List.length_take]; omega)]
  have e2 : k - (xs.take k).length = 0 := by rw [List.length_take]; omega
  rw [e2, List.set_cons_zero, List.take_succ_eq_append_getElem hk, List.append_assoc, List.singleton_append]

theorem get_row (xs : List Value) (z : Value) (k : Nat) (hk : k < xs.length) : (xs.take k ++ List.replicate (xs.length - k) z)[k]? = some z := by
  have hl : (xs.take k).length = k := by rw [List.length_take]; omega
  rw [List.getElem?_append_right (by omega), hl, Nat.sub_self, List.getElem?_replicate, if_pos (by omega)]

theorem only_below {w w' : World} {B g : Nat} (hg : w.grownBy w' (some g)) (h : B ≤ g) (hB : B ≤ w.heap.size) : Below B w w' :=
  (Below.refl B w).grown hg hB (fun k hk => by injection hk with hk; omega)

theorem same_next {α : Type} {a b : List α} {k : Nat} (h : a.take k = b.take k) (h1 : k < a.length) (h2 : k < b.length) (he : a[k] = b[k]) : a.take (k + 1) = b.take (k + 1) := by
  rw [List.take_succ_eq_append_getElem h1, List.take_succ_eq_append_getElem h2, h, he]

theorem same_not {α : Type} {a b : List α} {k : Nat} (h1 : k < a.length) (h2 : k < b.length) (he : ¬ a[k] = b[k]) : ¬ a = b := by
  rintro rfl; exact he rfl

theorem same_all {α : Type} {a b : List α} {k : Nat} (h : a.take k = b.take k) (h1 : a.length ≤ k) (h2 : b.length ≤ k) : a = b := by
  rw [List.take_of_length_le h1, List.take_of_length_le h2] at h; exact h

theorem grown_refl (w : World) (r : Option Nat) : w.grownBy w r := ⟨rfl, rfl, rfl, Nat.le_refl _, fun _ _ _ => rfl⟩

theorem grown_trans {a b c : World} {r : Option Nat} (h : a.grownBy b r) (k : b.grownBy c r) : a.grownBy c r :=
  ⟨k.os.trans h.os, k.tape.trans h.tape, k.output.trans h.output, Nat.le_trans h.size k.size, fun i hi hn => (k.block i (Nat.lt_of_lt_of_le hi h.size) hn).trans (h.block i hi hn)⟩

/-- The digits of a number, ahead of what is there. -/
def digs (k : Nat) (out : List UInt8) : List UInt8 := if h : k = 0 then out else digs (k / 10) (UInt8.ofNat (48 + k % 10) :: out)
termination_by k
decreasing_by omega

def markT (k : Nat) : List UInt8 := 109 :: digs k []

theorem digs_zero (out : List UInt8) : digs 0 out = out := by rw [digs]; simp

theorem digs_pos {k : Nat} (h : 0 < k) (out : List UInt8) : digs k out = digs (k / 10) (UInt8.ofNat (48 + k % 10) :: out) := by rw [digs]; simp; omega

theorem digit_int (k : Nat) : ((UInt8.ofNat (48 + k % 10)).toNat : Int) = 48 + (k : Int) % 10 := by
  have : (UInt8.ofNat (48 + k % 10)).toNat = 48 + k % 10 := by simp; omega
  rw [this]; omega

theorem cat_one (c : UInt8) (out : List UInt8) : (⟨#[c]⟩ : ByteArray) ++ ⟨out.toArray⟩ = ⟨(c :: out).toArray⟩ := by
  apply ByteArray.ext
  apply Array.ext'
  rw [ByteArray.data_append]
  simp

set_option maxHeartbeats 1000000 in
theorem markText_any (k0 : Nat) (w : World) (hk : k0 ≤ 8000000) (h1 : 1 ≤ k0) :
    Calls Tryz.prog 60 #[.int .i64 (k0 : Int)] w fun e w' => e = .returned (.string ⟨(markT k0).toArray⟩) ∧ Below w.heap.size w w' := by
  have hk0 : decide ((k0 : Int) ≤ 0) = false := by simp; omega
  have HZ : Hid (markT k0 = 109 :: digs k0 []) := rfl
  go_enter Tryz.func60, Tryz.ntmps60
  go_wp2_with fail
  go_loopw [0, 3] (fun q s wr => ∃ (k : Nat) (out : List UInt8), k ≤ 8000000 ∧ out.length + k ≤ 8000000 + 20 ∧ q = .int .i64 k ∧ s = .string ⟨out.toArray⟩ ∧ Below w.heap.size w wr ∧ Hid (digs k0 [] = digs k out)) (fun q _ _ => (intOf q).toNat)
  case atStart => exact ⟨k0, [], hk, by simp; omega, rfl, rfl, Below.refl _ _, rfl⟩
  case round =>
    obtain ⟨k, out, hk2, hol, rfl, rfl, hb, HO⟩ := hrel
    have hbs := hb.size
    have HB := Lib.hid hb
    clear hb
    by_cases hlt : 0 < k
    · have HS := Lib.hid (HO.out.trans (digs_pos hlt out))
      obtain ⟨c, hcE, hci⟩ : ∃ c : UInt8, c = UInt8.ofNat (48 + k % 10) ∧ (c.toNat : Int) = 48 + (k : Int) % 10 := ⟨_, rfl, digit_int k⟩
      have hc := run_one_byte c wr
      rw [hci] at hc
      rw [← hcE] at HS
      clear HO hcE hci
      go_wp2_with fail
      go_roundw
      case rel => exact ⟨k / 10, c :: out, by omega, by simp only [List.length_cons]; omega, by go_num, by rw [cat_one], HB.out.alloc hbs _, HS⟩
      case measure => simp [intOf]; omega
    · obtain rfl : k = 0 := by omega
      rw [digs_zero] at HO
      go_wp2_with fail
      go_ret
      exact ⟨by rw [HZ.out, HO.out, ← cat_one] <;> rfl, HB.out⟩

theorem S_get {l : List (List UInt8)} {k : Nat} (hk : k < l.length) : (S l)[k]'(by rw [S_len]; exact hk) = .string ⟨(l[k]).toArray⟩ := by simp [S]

/-- Texts in memory of the call's own. -/
def TextsPost (B : Nat) (l : List (List UInt8)) (w : World) (e : Ending) (w' : World) : Prop :=
  ∃ v, e = .returned v ∧ w'.ownsRow B 9 1 v l.length (S l) ∧ Below w.heap.size w w'

set_option maxHeartbeats 1000000 in
theorem toStringS_any (l : List (List UInt8)) (v : Value) (w : World) (hrow : RowV w v (S l)) (hl : l.length ≤ 2000000) :
    Calls Tryz.prog 12 #[v] w (TextsPost w.heap.size l w) := by
  obtain ⟨a, cap, rfl, hc1, hc2, hat⟩ := hrow.texts
  clear hrow
  unfold maxLen at hc2
  obtain ⟨w0, hmk, hown0, hb0⟩ := make_row elemS rfl l.length w hl
  have HN0 := Lib.hid hown0
  have HB0 := Lib.hid hb0
  clear hown0 hb0
  go_enter Tryz.func12, Tryz.ntmps12
  go_wp2_with fail
  clear hmk
  go_loopw [4] (fun i wr => ∃ k : Nat, k ≤ l.length ∧ i = .int .i64 k ∧ wr.ownsRow w.heap.size 9 1 (.slice (some ⟨w.heap.size, 0, none⟩) l.length l.length) l.length ((S l).take k ++ List.replicate ((S l).length - k) (.string ByteArray.empty)) ∧ Below w.heap.size w wr) (fun i _ => l.length - (intOf i).toNat)
  case atStart => exact ⟨0, Nat.zero_le _, rfl, by rw [S_len]; exact HN0.out, HB0.out⟩
  case round =>
    clear HN0 HB0
    obtain ⟨k, hk, rfl, hown, hb⟩ := hrel
    have hbs := hb.size
    by_cases hlt : k < l.length
    · obtain ⟨g, o, rfl, hg, hcell0⟩ := hat k hlt
      have hcell : wr.cell? ⟨g, o + k, none⟩ = some (.string ⟨(l[k]).toArray⟩) := by rw [hb.cell (p := ⟨g, o + k, none⟩) hg]; exact hcell0
      have hfz := hown.frozenAt k
      have hcz : wr.cell? ⟨w.heap.size, k, none⟩ = some (.string ByteArray.empty) := by rw [hown.cellAt k (by omega), get_row _ _ _ (by rw [S_len]; exact hlt)]
      have hst := hown.stored k (.string ⟨(l[k]).toArray⟩)
      have e := set_row (S l) (.string ByteArray.empty) k (by rw [S_len]; exact hlt)
      rw [S_get hlt] at e
      rw [e] at hst
      have HN1 := Lib.hid hst.1
      have HB1 := Lib.hid (hb.trans (only_below hst.2 (Nat.le_refl _) hbs))
      clear hcell0 hat hown hb hst e
      generalize l[k] = x at hcell HN1 HB1
      go_wp2_with fail
      go_roundw
      case rel => exact ⟨k + 1, by omega, by go_num, HN1.out, HB1.out⟩
      case measure => simp [intOf]; omega
    · have HN1 : Hid (wr.ownsRow w.heap.size 9 1 (.slice (some ⟨w.heap.size, 0, none⟩) l.length l.length) l.length (S l)) := by
        have e1 : (S l).take k = S l := List.take_of_length_le (by rw [S_len]; omega)
        have e2 : (S l).length - k = 0 := by rw [S_len]; omega
        rw [e1, e2, List.replicate_zero, List.append_nil] at hown
        exact hown
      have HB := Lib.hid hb
      clear hown hb hat
      go_wp2_with fail
      go_ret
      exact ⟨_, rfl, HN1.out, HB.out⟩

set_option maxHeartbeats 1000000 in
theorem eqStringS_any (l m : List (List UInt8)) (v u : Value) (w : World) (hr1 : RowV w v (S l)) (hr2 : RowV w u (S m)) (hl : l.length ≤ 2000000) :
    Calls Tryz.prog 17 #[v, u] w fun e w' => e = .returned (.bool (decide (l = m))) ∧ Below w.heap.size w w' := by
  obtain ⟨a, cap, rfl, hc1, hc2, hat⟩ := hr1.texts
  obtain ⟨a2, cap2, rfl, hc3, hc4, hat2⟩ := hr2.texts
  clear hr1 hr2
  unfold maxLen at hc2 hc4
  by_cases hlen : l.length = m.length
  · have hlen1 : ((l.length : Int) != (m.length : Int)) = false := by simp [hlen]
    go_enter Tryz.func17, Tryz.ntmps17
    go_wp2_with fail
    go_loopw [5] (fun i wr => ∃ k : Nat, k ≤ l.length ∧ i = .int .i64 k ∧ Hid (l.take k = m.take k) ∧ Below w.heap.size w wr) (fun i _ => l.length - (intOf i).toNat)
    case atStart => exact ⟨0, Nat.zero_le _, rfl, rfl, Below.refl _ _⟩
    case round =>
      obtain ⟨k, hk, rfl, HO, hb⟩ := hrel
      have HB := Lib.hid hb
      by_cases hlt : k < l.length
      · obtain ⟨g, o, rfl, hg, hcell0⟩ := hat k hlt
        obtain ⟨g2, o2, rfl, hg2, hcell02⟩ := hat2 k (by omega)
        have hcell : wr.cell? ⟨g, o + k, none⟩ = some (.string ⟨(l[k]).toArray⟩) := by rw [hb.cell (p := ⟨g, o + k, none⟩) hg]; exact hcell0
        have hcell2 : wr.cell? ⟨g2, o2 + k, none⟩ = some (.string ⟨(m[k]).toArray⟩) := by rw [hb.cell (p := ⟨g2, o2 + k, none⟩) hg2]; exact hcell02
        clear hcell0 hcell02 hat hat2 hb
        have hi1 : (k : Int) < (l.length : Int) := by omega
        have hi2 : (k : Int) < (m.length : Int) := by omega
        by_cases he : l[k] = m[k]
        · have HS := Lib.hid (same_next HO.out hlt (by omega) he)
          have he1 : (l[k] != m[k]) = false := by simp [he]
          have he2 : (l[k] == m[k]) = true := by simp [he]
          generalize l[k] = x at hcell he1 he he2
          generalize m[k] = y at hcell2 he1 he he2
          clear HO
          go_wp2_with fail
          go_quiet (fail)
          go_wp2_with fail
          go_roundw
          case rel => exact ⟨k + 1, by omega, by go_num, HS, below_drewN HB.out _⟩
          case measure => simp [intOf]; omega
        · have HS : Hid (decide (l = m) = false) := decide_eq_false (same_not hlt (by omega) he)
          have he1 : (l[k] != m[k]) = true := by simp [he]
          have he2 : (l[k] == m[k]) = false := by simp [he]
          generalize l[k] = x at hcell he1 he he2
          generalize m[k] = y at hcell2 he1 he he2
          clear HO
          go_wp2_with fail
          go_quiet (fail)
          go_wp2_with fail
          go_ret
          exact ⟨ret_bool HS.out.symm, below_drewN HB.out _⟩
      · have HS : Hid (decide (l = m) = true) := decide_eq_true (same_all HO.out (by omega) (by omega))
        clear HO hat hat2 hb
        go_wp2_with fail
        go_ret
        exact ⟨ret_bool HS.out.symm, HB.out⟩
  · have hlen1 : ((l.length : Int) != (m.length : Int)) = true := by simp; omega
    have HS : Hid (decide (l = m) = false) := decide_eq_false (fun h => hlen (by rw [h]))
    clear hat hat2
    go_enter Tryz.func17, Tryz.ntmps17
    go_wp2_with fail
    go_ret
    exact ⟨ret_bool HS.out.symm, Below.refl _ _⟩

set_option maxHeartbeats 1000000 in
theorem szStringS_any (l : List (List UInt8)) (left : Nat) (v : Value) (w : World) (hrow : RowV w v (S l)) (hx : ∀ x ∈ l, x.length ≤ maxLen) (hl : left ≤ 2000000) :
    Calls Tryz.prog 8 #[v, .int .i64 (left : Int)] w fun e w' => ∃ r : Int, e = .returned (.int .i64 r) ∧ (0 ≤ r → l.length ≤ left ∧ ∀ x ∈ l, x.length ≤ left) ∧ w = w' := by
  obtain ⟨a, cap, rfl, hc1, hc2, hat⟩ := hrow.texts
  clear hrow
  unfold maxLen at hc2 hx
  by_cases hlen : l.length ≤ left
  · have hlen1 : decide ((left : Int) - (l.length : Int) < 0) = false := by simp; omega
    go_enter Tryz.func8, Tryz.ntmps8
    go_wp2_with fail
    go_loop [1, 5] (fun q i => ∃ (k : Nat) (r : Int), k ≤ l.length ∧ 0 ≤ r ∧ r ≤ left ∧ q = .int .i64 r ∧ i = .int .i64 k ∧ Hid (∀ x ∈ l.take k, x.length ≤ left)) (fun _ i => l.length - (intOf i).toNat)
    case atStart => exact ⟨0, (left : Int) - (l.length : Int), Nat.zero_le _, by omega, by omega, rfl, rfl, by simp [Hid]⟩
    case round =>
      obtain ⟨k, r, hk, hr0, hr1, rfl, rfl, HO⟩ := hrel
      by_cases hlt : k < l.length
      · obtain ⟨g, o, rfl, hg, hcell⟩ := hat k hlt
        have hxl := hx l[k] (List.getElem_mem hlt)
        by_cases hy : ((l[k]).length : Int) ≤ r
        · have HS : Hid (∀ x ∈ l.take (k + 1), x.length ≤ left) := by
            intro x hxm
            rw [List.take_succ_eq_append_getElem hlt, List.mem_append, List.mem_singleton] at hxm
            rcases hxm with h | h
            · exact HO.out x h
            · rw [h]; omega
          have hy1 : decide (r - ((l[k]).length : Int) < 0) = false := by simp; omega
          generalize l[k] = x at hcell hxl hy hy1
          clear hat HO hx
          go_wp2_with fail
          go_round
          case rel => exact ⟨k + 1, r - (x.length : Int), by omega, by omega, by omega, rfl, by go_num, HS⟩
          case measure => simp [intOf]; omega
        · have hy1 : decide (r - ((l[k]).length : Int) < 0) = true := by simp; omega
          generalize l[k] = x at hcell hxl hy hy1
          clear hat HO hx
          go_wp2_with fail
          go_ret
          exact ⟨-1, rfl, fun h => by omega, rfl⟩
      · have HS : Hid (∀ x ∈ l, x.length ≤ left) := by have := HO.out; rw [List.take_of_length_le (by omega)] at this; exact this
        clear hat HO hx
        go_wp2_with fail
        go_ret
        exact ⟨r, rfl, fun _ => by first | exact ⟨hlen, HS.out⟩ | exact HS.out, rfl⟩
  · have hlen1 : decide ((left : Int) - (l.length : Int) < 0) = true := by simp; omega
    clear hat hx
    go_enter Tryz.func8, Tryz.ntmps8
    go_wp2_with fail
    go_ret
    exact ⟨-1, rfl, fun h => by omega, rfl⟩

/-- The texts that are marks, from k on. -/
def marksT (k : Nat) (n : Nat) : List (List UInt8) := (List.range n).map (fun (i : Nat) => markT (k + i))

theorem marksT_len (k n : Nat) : (marksT k n).length = n := by simp [marksT]

theorem marksT_snoc (k n : Nat) : marksT k (n + 1) = marksT k n ++ [markT (k + n)] := by simp [marksT, List.range_succ]

theorem marksT_at (k n j : Nat) (hj : j < (marksT k n).length) : (marksT k n)[j] = markT (k + j) := by simp [marksT]

theorem markT_set (k : Nat) (l : List (List UInt8)) (j : Nat) (hj : j < l.length) : (S (marksT k j) ++ (S l).drop j).set j (.string ⟨(markT (k + j)).toArray⟩) = S (marksT k (j + 1)) ++ (S l).drop (j + 1) := by
  have hl : (S (marksT k j)).length = j := by rw [S_len, marksT_len]
  rw [List.set_append_right _ _ (by omega), hl, Nat.sub_self, List.drop_eq_getElem_cons (by rw [S_len]; exact hj), List.set_cons_zero, marksT_snoc, S_append, List.append_assoc]
  rfl

theorem markT_get (k : Nat) (l : List (List UInt8)) (j : Nat) (hj : j < l.length) : (S (marksT k j) ++ (S l).drop j)[j]? = some (.string ⟨(l[j]).toArray⟩) := by
  have hl : (S (marksT k j)).length = j := by rw [S_len, marksT_len]
  rw [List.getElem?_append_right (by omega), hl, Nat.sub_self, List.getElem?_drop, Nat.add_zero, List.getElem?_eq_getElem (by rw [S_len]; exact hj), S_get hj]

/-- The list holds the marks, and nothing but its own block has turned. -/
def MarkedT (B : Nat) (v : Value) (k : Nat) (n : Nat) (w : World) (e : Ending) (w' : World) : Prop :=
  e = .returned (.int .i64 ((k : Int) + (n : Int))) ∧ w'.ownsRow B 9 1 v n (S (marksT k n)) ∧ w.grownBy w' v.ownBlock

theorem below_grown {w w' : World} {r : Option Nat} (h : Below w.heap.size w w') : w.grownBy w' r := ⟨h.os, h.tape, h.output, h.size, fun i hi _ => h.block i hi⟩

set_option maxHeartbeats 1000000 in
theorem markStringS_any (l : List (List UInt8)) (k : Nat) (B : Nat) (v : Value) (w : World) (hown : w.ownsRow B 9 1 v l.length (S l)) (hl : l.length ≤ 2000000) (hk : k ≤ 4000000) (hk1 : 1 ≤ k) :
    Calls Tryz.prog 20 #[v, .int .i64 (k : Int)] w (MarkedT B v k l.length w) := by
  have HW := Lib.hid hown
  obtain ⟨a, cap, rfl⟩ := own_slice hown
  clear hown
  go_enter Tryz.func20, Tryz.ntmps20
  go_wp2_with fail
  go_loopw [1, 5] (fun q i wr => ∃ j : Nat, j ≤ l.length ∧ q = .int .i64 ((k : Int) + (j : Int)) ∧ i = .int .i64 j ∧ wr.ownsRow B 9 1 (.slice a l.length cap) l.length (S (marksT k j) ++ (S l).drop j) ∧ w.grownBy wr (Value.slice a l.length cap).ownBlock) (fun _ i _ => l.length - (intOf i).toNat)
  case atStart => exact ⟨0, Nat.zero_le _, by simp, rfl, HW.out, grown_refl _ _⟩
  case round =>
    clear HW
    obtain ⟨j, hj, rfl, rfl, hown, hg⟩ := hrel
    by_cases hlt : j < l.length
    · obtain ⟨g, c2, hv⟩ : ∃ g c2, (Value.slice a l.length cap) = .slice (some ⟨g, 0, none⟩) l.length c2 := by
        rcases hown.2 with ⟨_, h0⟩ | ⟨g, c2, cur, hv, _⟩
        · omega
        · exact ⟨g, c2, hv⟩
      injection hv with hv1 hv2 hv3
      subst hv1
      have hc4 : l.length ≤ cap := by
        rcases hown.2 with ⟨_, h0⟩ | ⟨g, c2, cur, hv, _, _, h5, _⟩
        · omega
        · injection hv with _ _ hv3; omega
      have C := markText_any (k + j) wr (by omega) (by omega)
      have ec : ((k + j : Nat) : Int) = (k : Int) + (j : Int) := by omega
      rw [ec] at C
      have HC := Lib.hid C
      have HN := Lib.hid hown
      have HG := Lib.hid hg
      clear hown hg C ec hv2 hv3
      go_wp2_with fail
      refine HC.out.mono ?_
      rintro e w1 ⟨rfl, hb1⟩
      have hown1 := own_below HN.out hb1
      have hfz := hown1.frozenAt j
      have hcz : w1.cell? ⟨g, j, none⟩ = some (.string ⟨(l[j]).toArray⟩) := by rw [hown1.cellAt j (by omega), markT_get k l j hlt]
      have hst := hown1.stored j (.string ⟨(markT (k + j)).toArray⟩)
      rw [markT_set k l j hlt] at hst
      have HN1 := Lib.hid hst.1
      have HG1 := Lib.hid (grown_trans (grown_trans HG.out (below_grown hb1)) hst.2)
      clear hst hown1 hb1
      generalize l[j] = x at hcz
      generalize markT (k + j) = y at HN1 HG1
      go_wp2_with fail
      go_roundw
      case rel => exact ⟨j + 1, by omega, by go_num, by go_num, HN1.out, HG1.out⟩
      case measure => simp [intOf]; omega
    · obtain rfl : j = l.length := by omega
      have e : (S l).drop l.length = [] := List.drop_of_length_le (by rw [S_len]; omega)
      rw [e, List.append_nil] at hown
      have HN := Lib.hid hown
      have HG := Lib.hid hg
      clear hown hg e
      go_wp2_with fail
      go_ret
      exact ⟨rfl, HN.out, HG.out⟩

set_option maxHeartbeats 1000000 in
theorem heldStringS_any (k n : Nat) (v : Value) (w : World) (hrow : RowV w v (S (marksT k n))) (hn : n ≤ 2000000) (hk : k ≤ 4000000) (hk1 : 1 ≤ k) :
    Calls Tryz.prog 61 #[v, .int .i64 (k : Int)] w fun e w' => e = .returned (.int .i64 ((k : Int) + (n : Int))) ∧ Below w.heap.size w w' := by
  obtain ⟨a, cap, rfl, hc1, hc2, hat⟩ := hrow.texts
  rw [marksT_len] at hc1 ⊢
  clear hrow
  unfold maxLen at hc2
  go_enter Tryz.func61, Tryz.ntmps61
  go_wp2_with fail
  go_loopw [1, 5] (fun q i wr => ∃ j : Nat, j ≤ n ∧ q = .int .i64 ((k : Int) + (j : Int)) ∧ i = .int .i64 j ∧ Below w.heap.size w wr) (fun _ i _ => n - (intOf i).toNat)
  case atStart => exact ⟨0, Nat.zero_le _, by simp, rfl, Below.refl _ _⟩
  case round =>
    obtain ⟨j, hj, rfl, rfl, hb⟩ := hrel
    by_cases hlt : j < n
    · obtain ⟨g, o, rfl, hg, hcell0⟩ := hat j (by rw [marksT_len]; exact hlt)
      rw [marksT_at] at hcell0
      have s0 : wr.cell? ⟨g, o + j, none⟩ = some (.string ⟨(markT (k + j)).toArray⟩) := by rw [hb.cell (p := ⟨g, o + j, none⟩) hg]; exact hcell0
      have hgw : g < wr.heap.size := by have := hb.size; omega
      have C := fun W => markText_any (k + j) W (by omega) (by omega)
      have ec : ((k + j : Nat) : Int) = (k : Int) + (j : Int) := by omega
      rw [ec] at C
      have HC := Lib.hid C
      have HB := Lib.hid hb
      have hj1 : (j : Int) < (n : Int) := by omega
      clear hcell0 hat hb C ec
      generalize markT (k + j) = y at s0 HC
      go_wp2_with fail
      go_region_held3 (fun w' => w'.cell? ⟨g, o + j, none⟩ = some (.string ⟨y.toArray⟩)) (first | exact s0 | exact k0)
        (first | (go_at_call 60; refine (HC.out _).mono ?_; rintro e w5 ⟨rfl, hb5⟩; have k0 := (hb5.cell (p := ⟨g, o + j, none⟩) hgw).trans s0))
      have HB5 := Lib.hid ((Below.drew HB.out).trans (hb5.mono HB.out.size))
      clear hb5 k0
      go_wp2_with fail
      go_roundw
      case rel => exact ⟨j + 1, by omega, by go_num, by go_num, HB5.out⟩
      case measure => simp [intOf]; omega
    · obtain rfl : j = n := by omega
      have HB := Lib.hid hb
      clear hat hb
      go_wp2_with fail
      go_ret
      exact ⟨rfl, HB.out⟩

end Go.Proofs.YtgolhfmmlanmlaaGreatDoor

/- Walks: the laws' helpers on lists of numbers (beside those on texts). -/
namespace Go.Proofs.YtgolhfmmlanmlaaGreatDoor
open Go.RowKit Pth





theorem I_get {l : List Int} {k : Nat} (hk : k < l.length) : (I l)[k]'(by rw [I_len]; exact hk) = .int .i64 l[k] := by simp [I]

set_option maxHeartbeats 1000000 in
theorem toIntS_any (l : List Int) (v : Value) (w : World) (hrow : RowV w v (I l)) (hl : l.length ≤ 2000000) :
    Calls Tryz.prog 77 #[v] w (IntsPost w.heap.size l w) := by
  obtain ⟨a, cap, rfl, hc1, hc2, hat⟩ := hrow.ints
  clear hrow
  unfold maxLen at hc2
  obtain ⟨w0, hmk, hown0, hb0⟩ := make_row elemI rfl l.length w hl
  have HN0 := Lib.hid hown0
  have HB0 := Lib.hid hb0
  clear hown0 hb0
  go_enter Tryz.func77, Tryz.ntmps77
  go_wp2_with fail
  clear hmk
  go_loopw [4] (fun i wr => ∃ k : Nat, k ≤ l.length ∧ i = .int .i64 k ∧ wr.ownsRow w.heap.size 3 1 (.slice (some ⟨w.heap.size, 0, none⟩) l.length l.length) l.length ((I l).take k ++ List.replicate ((I l).length - k) (.int .i64 0)) ∧ Below w.heap.size w wr) (fun i _ => l.length - (intOf i).toNat)
  case atStart => exact ⟨0, Nat.zero_le _, rfl, by rw [I_len]; exact HN0.out, HB0.out⟩
  case round =>
    clear HN0 HB0
    obtain ⟨k, hk, rfl, hown, hb⟩ := hrel
    have hbs := hb.size
    by_cases hlt : k < l.length
    · obtain ⟨g, o, rfl, hg, hcell0⟩ := hat k hlt
      have hcell : wr.cell? ⟨g, o + k, none⟩ = some (.int .i64 l[k]) := by rw [hb.cell (p := ⟨g, o + k, none⟩) hg]; exact hcell0
      have hfz := hown.frozenAt k
      have hcz : wr.cell? ⟨w.heap.size, k, none⟩ = some (.int .i64 0) := by rw [hown.cellAt k (by omega), get_row _ _ _ (by rw [I_len]; exact hlt)]
      have hst := hown.stored k (.int .i64 l[k])
      have e := set_row (I l) (.int .i64 0) k (by rw [I_len]; exact hlt)
      rw [I_get hlt] at e
      rw [e] at hst
      have HN1 := Lib.hid hst.1
      have HB1 := Lib.hid (hb.trans (only_below hst.2 (Nat.le_refl _) hbs))
      clear hcell0 hat hown hb hst e
      generalize l[k] = x at hcell HN1 HB1
      go_wp2_with fail
      go_roundw
      case rel => exact ⟨k + 1, by omega, by go_num, HN1.out, HB1.out⟩
      case measure => simp [intOf]; omega
    · have HN1 : Hid (wr.ownsRow w.heap.size 3 1 (.slice (some ⟨w.heap.size, 0, none⟩) l.length l.length) l.length (I l)) := by
        have e1 : (I l).take k = I l := List.take_of_length_le (by rw [I_len]; omega)
        have e2 : (I l).length - k = 0 := by rw [I_len]; omega
        rw [e1, e2, List.replicate_zero, List.append_nil] at hown
        exact hown
      have HB := Lib.hid hb
      clear hown hb hat
      go_wp2_with fail
      go_ret
      exact ⟨_, rfl, HN1.out, HB.out⟩


set_option maxHeartbeats 1000000 in
theorem eqIntS_any (l m : List Int) (v u : Value) (w : World) (hr1 : RowV w v (I l)) (hr2 : RowV w u (I m)) (hl : l.length ≤ 2000000) :
    Calls Tryz.prog 28 #[v, u] w fun e w' => e = .returned (.bool (decide (l = m))) ∧ Below w.heap.size w w' := by
  obtain ⟨a, cap, rfl, hc1, hc2, hat⟩ := hr1.ints
  obtain ⟨a2, cap2, rfl, hc3, hc4, hat2⟩ := hr2.ints
  clear hr1 hr2
  unfold maxLen at hc2 hc4
  by_cases hlen : l.length = m.length
  · have hlen1 : ((l.length : Int) != (m.length : Int)) = false := by simp [hlen]
    go_enter Tryz.func28, Tryz.ntmps28
    go_wp2_with fail
    go_loopw [5] (fun i wr => ∃ k : Nat, k ≤ l.length ∧ i = .int .i64 k ∧ Hid (l.take k = m.take k) ∧ Below w.heap.size w wr) (fun i _ => l.length - (intOf i).toNat)
    case atStart => exact ⟨0, Nat.zero_le _, rfl, rfl, Below.refl _ _⟩
    case round =>
      obtain ⟨k, hk, rfl, HO, hb⟩ := hrel
      have HB := Lib.hid hb
      by_cases hlt : k < l.length
      · obtain ⟨g, o, rfl, hg, hcell0⟩ := hat k hlt
        obtain ⟨g2, o2, rfl, hg2, hcell02⟩ := hat2 k (by omega)
        have hcell : wr.cell? ⟨g, o + k, none⟩ = some (.int .i64 l[k]) := by rw [hb.cell (p := ⟨g, o + k, none⟩) hg]; exact hcell0
        have hcell2 : wr.cell? ⟨g2, o2 + k, none⟩ = some (.int .i64 m[k]) := by rw [hb.cell (p := ⟨g2, o2 + k, none⟩) hg2]; exact hcell02
        clear hcell0 hcell02 hat hat2 hb
        have hi1 : (k : Int) < (l.length : Int) := by omega
        have hi2 : (k : Int) < (m.length : Int) := by omega
        by_cases he : l[k] = m[k]
        · have HS := Lib.hid (same_next HO.out hlt (by omega) he)
          have he1 : (l[k] != m[k]) = false := by simp [he]
          generalize l[k] = x at hcell he1 he
          generalize m[k] = y at hcell2 he1 he
          clear HO he
          go_wp2_with fail
          go_quiet (fail)
          go_wp2_with fail
          go_roundw
          case rel => exact ⟨k + 1, by omega, by go_num, HS, below_drewN HB.out _⟩
          case measure => simp [intOf]; omega
        · have HS : Hid (decide (l = m) = false) := decide_eq_false (same_not hlt (by omega) he)
          have he1 : (l[k] != m[k]) = true := by simp [he]
          generalize l[k] = x at hcell he1 he
          generalize m[k] = y at hcell2 he1 he
          clear HO he
          go_wp2_with fail
          go_quiet (fail)
          go_wp2_with fail
          go_ret
          exact ⟨ret_bool HS.out.symm, below_drewN HB.out _⟩
      · have HS : Hid (decide (l = m) = true) := decide_eq_true (same_all HO.out (by omega) (by omega))
        clear HO hat hat2 hb
        go_wp2_with fail
        go_ret
        exact ⟨ret_bool HS.out.symm, HB.out⟩
  · have hlen1 : ((l.length : Int) != (m.length : Int)) = true := by simp; omega
    have HS : Hid (decide (l = m) = false) := decide_eq_false (fun h => hlen (by rw [h]))
    clear hat hat2
    go_enter Tryz.func28, Tryz.ntmps28
    go_wp2_with fail
    go_ret
    exact ⟨ret_bool HS.out.symm, Below.refl _ _⟩

/-- The marks from k on. -/
def marks (k : Int) (n : Nat) : List Int := (List.range n).map (fun (i : Nat) => k + (i : Int))
theorem marks_len (k : Int) (n : Nat) : (marks k n).length = n := by simp [marks]
theorem marks_snoc (k : Int) (n : Nat) : marks k (n + 1) = marks k n ++ [k + (n : Int)] := by simp [marks, List.range_succ]
theorem marks_at (k : Int) (n j : Nat) (hj : j < (marks k n).length) : (marks k n)[j] = k + (j : Int) := by simp [marks]
theorem mark_set (k : Int) (l : List Int) (j : Nat) (hj : j < l.length) : (I (marks k j) ++ (I l).drop j).set j (.int .i64 (k + (j : Int))) = I (marks k (j + 1)) ++ (I l).drop (j + 1) := by
  have hl : (I (marks k j)).length = j := by rw [I_len, marks_len]
  rw [List.set_append_right _ _ (by omega), hl, Nat.sub_self, List.drop_eq_getElem_cons (by rw [I_len]; exact hj), List.set_cons_zero, marks_snoc, I_append, List.append_assoc]
  rfl
theorem mark_get (k : Int) (l : List Int) (j : Nat) (hj : j < l.length) : (I (marks k j) ++ (I l).drop j)[j]? = some (.int .i64 l[j]) := by
  have hl : (I (marks k j)).length = j := by rw [I_len, marks_len]
  rw [List.getElem?_append_right (by omega), hl, Nat.sub_self, List.getElem?_drop, Nat.add_zero, List.getElem?_eq_getElem (by rw [I_len]; exact hj), I_get hj]

/-- The list holds the marks, and nothing but its own block has turned. -/
def Marked (B : Nat) (v : Value) (k : Int) (n : Nat) (w : World) (e : Ending) (w' : World) : Prop :=
  e = .returned (.int .i64 (k + (n : Int))) ∧ w'.ownsRow B 3 1 v n (I (marks k n)) ∧ w.grownBy w' v.ownBlock


set_option maxHeartbeats 1000000 in
theorem markIntS_any (l : List Int) (k : Nat) (B : Nat) (v : Value) (w : World) (hown : w.ownsRow B 3 1 v l.length (I l)) (hl : l.length ≤ 2000000) (hk : k ≤ 2000000) :
    Calls Tryz.prog 29 #[v, .int .i64 (k : Int)] w (Marked B v k l.length w) := by
  have HW := Lib.hid hown
  obtain ⟨a, cap, rfl⟩ := own_slice hown
  clear hown
  go_enter Tryz.func29, Tryz.ntmps29
  go_wp2_with fail
  go_loopw [1, 5] (fun q i wr => ∃ j : Nat, j ≤ l.length ∧ q = .int .i64 ((k : Int) + (j : Int)) ∧ i = .int .i64 j ∧ wr.ownsRow B 3 1 (.slice a l.length cap) l.length (I (marks k j) ++ (I l).drop j) ∧ w.grownBy wr (Value.slice a l.length cap).ownBlock) (fun _ i _ => l.length - (intOf i).toNat)
  case atStart => exact ⟨0, Nat.zero_le _, by simp, rfl, HW.out, grown_refl _ _⟩
  case round =>
    clear HW
    obtain ⟨j, hj, rfl, rfl, hown, hg⟩ := hrel
    by_cases hlt : j < l.length
    · obtain ⟨g, c2, hv⟩ : ∃ g c2, (Value.slice a l.length cap) = .slice (some ⟨g, 0, none⟩) l.length c2 := by
        rcases hown.2 with ⟨_, h0⟩ | ⟨g, c2, cur, hv, _⟩
        · omega
        · exact ⟨g, c2, hv⟩
      injection hv with hv1 hv2 hv3
      subst hv1
      have hfz := hown.frozenAt j
      have hcz : wr.cell? ⟨g, j, none⟩ = some (.int .i64 l[j]) := by rw [hown.cellAt j (by omega), mark_get k l j hlt]
      have hst := hown.stored j (.int .i64 ((k : Int) + (j : Int)))
      rw [mark_set k l j hlt] at hst
      have HN1 := Lib.hid hst.1
      have HG1 := Lib.hid (grown_trans hg hst.2)
      have hc4 : l.length ≤ cap := by
        rcases hown.2 with ⟨_, h0⟩ | ⟨g, c2, cur, hv, _, _, h5, _⟩
        · omega
        · injection hv with _ _ hv3; omega
      clear hown hg hst hv2 hv3
      generalize l[j] = x at hcz
      go_wp2_with fail
      go_roundw
      case rel => exact ⟨j + 1, by omega, by go_num, by go_num, HN1.out, HG1.out⟩
      case measure => simp [intOf]; omega
    · obtain rfl : j = l.length := by omega
      have e : (I l).drop l.length = [] := List.drop_of_length_le (by rw [I_len]; omega)
      rw [e, List.append_nil] at hown
      have HN := Lib.hid hown
      have HG := Lib.hid hg
      clear hown hg e
      go_wp2_with fail
      go_ret
      exact ⟨rfl, HN.out, HG.out⟩

set_option maxHeartbeats 1000000 in
theorem heldIntS_any (k n : Nat) (v : Value) (w : World) (hrow : RowV w v (I (marks k n))) (hn : n ≤ 2000000) (hk : k ≤ 2000000) :
    Calls Tryz.prog 30 #[v, .int .i64 (k : Int)] w fun e w' => e = .returned (.int .i64 ((k : Int) + (n : Int))) ∧ Below w.heap.size w w' := by
  obtain ⟨a, cap, rfl, hc1, hc2, hat⟩ := hrow.ints
  rw [marks_len] at hc1 ⊢
  clear hrow
  unfold maxLen at hc2
  go_enter Tryz.func30, Tryz.ntmps30
  go_wp2_with fail
  go_loopw [1, 5] (fun q i wr => ∃ j : Nat, j ≤ n ∧ q = .int .i64 ((k : Int) + (j : Int)) ∧ i = .int .i64 j ∧ Below w.heap.size w wr) (fun _ i _ => n - (intOf i).toNat)
  case atStart => exact ⟨0, Nat.zero_le _, by simp, rfl, Below.refl _ _⟩
  case round =>
    obtain ⟨j, hj, rfl, rfl, hb⟩ := hrel
    by_cases hlt : j < n
    · obtain ⟨g, o, rfl, hg, hcell0⟩ := hat j (by rw [marks_len]; exact hlt)
      rw [marks_at] at hcell0
      have hcell : wr.cell? ⟨g, o + j, none⟩ = some (.int .i64 ((k : Int) + (j : Int))) := by rw [hb.cell (p := ⟨g, o + j, none⟩) hg]; exact hcell0
      have HB := Lib.hid hb
      clear hcell0 hat hb
      go_wp2_with fail
      all_goals
        go_roundw
        case rel => exact ⟨j + 1, by omega, by go_num, by go_num, HB.out⟩
        case measure => simp [intOf]; omega
    · obtain rfl : j = n := by omega
      have HB := Lib.hid hb
      clear hat hb
      go_wp2_with fail
      go_ret
      exact ⟨rfl, HB.out⟩

end Go.Proofs.YtgolhfmmlanmlaaGreatDoor
