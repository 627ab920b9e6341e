/- Texts of one claim, joined in their order. -/
import Derived.Test.YtgcaplbeahjbmaaGreatDoorRows
import Derived.WalkKit
import Derived.WalkSpells
import Derived.WalkLawsBesides
import Derived.Deep.Light
import Derived.Deep.LoopGhost
import Derived.Deep.DeepMust
import Derived.Lib.Hide
import Derived.BigQuiet
import Derived.Deep.QuietTactic
import Derived.Deep.RegionHeld3
import Derived.StillTailTactics
import Derived.Laws.IdiomStrings
import GoSem.Op.String


/- Plain mathematics of paths: lists of bytes, no program. -/
namespace Go.Proofs.YtgcaplbeahjbmaaGreatDoor
namespace Pth

/-- The byte may stand in a path. -/
def pb (c : Int) : Bool := decide (97 ≤ c) && decide (c ≤ 122) || decide (48 ≤ c) && decide (c ≤ 57) || (c == 46) || (c == 95) || (c == 45) || (c == 47)

theorem pb_high {c : Int} (h : 123 ≤ c) : pb c = false := by
  simp only [pb, Bool.or_eq_false_iff, Bool.and_eq_false_iff, decide_eq_false_iff_not, beq_eq_false_iff_ne]
  omega

/-- The text is a path. -/
def okL (l : List UInt8) : Bool := l.all fun c => pb (c.toNat : Int)
def pathL (l : List UInt8) : Bool := okL l && decide (l.length ≤ 60)

def rootedL : List UInt8 → Bool
  | [] => false
  | c :: _ => c == 47

/-- The pieces between slashes; cur: what is read since the last one, back to front. -/
def splitAux (cur : List UInt8) : List UInt8 → List (List UInt8)
  | [] => [cur.reverse]
  | c :: r => if c = 47 then cur.reverse :: splitAux [] r else splitAux (c :: cur) r
def splitL (l : List UInt8) : List (List UInt8) := splitAux [] l

def dots : List UInt8 := [46, 46]

/-- One part taken. -/
def pstep (rooted : Bool) (acc : List (List UInt8)) (p : List UInt8) : List (List UInt8) :=
  if p = [] ∨ p = [46] then acc
  else if p = dots then
    if acc ≠ [] ∧ acc.getLast? ≠ some dots then acc.dropLast
    else if rooted then acc else acc ++ [p]
  else acc ++ [p]

def partsFrom (rooted : Bool) : List (List UInt8) → List (List UInt8) → List (List UInt8)
  | acc, [] => acc
  | acc, p :: r => partsFrom rooted (pstep rooted acc p) r
def partsL (l : List UInt8) : List (List UInt8) := partsFrom (rootedL l) [] (splitL l)

/-- Parts with slashes between. -/
def glue : List (List UInt8) → List UInt8
  | [] => []
  | [p] => p
  | p :: q :: r => p ++ 47 :: glue (q :: r)
def joinL (parts : List (List UInt8)) (rooted : Bool) : List UInt8 :=
  if rooted then 47 :: glue parts else if glue parts = [] then [46] else glue parts
def cleanL (l : List UInt8) : List UInt8 := joinL (partsL l) (rootedL l)

theorem glue_snoc (a : List (List UInt8)) (p : List UInt8) : glue (a ++ [p]) = if a = [] then p else glue a ++ 47 :: p := by
  induction a with
  | nil => simp [glue]
  | cons x r ih =>
    cases r with
    | nil => simp [glue]
    | cons y t => simp only [List.cons_append, glue] at ih ⊢; rw [ih]; simp

theorem okL_snoc (a : List UInt8) (c : UInt8) : okL (a ++ [c]) = (okL a && pb (c.toNat : Int)) := by simp [okL]
theorem okL_bad {l : List UInt8} {c : UInt8} (h : c ∈ l) (hc : pb (c.toNat : Int) = false) : okL l = false := by
  rw [okL, List.all_eq_false]
  exact ⟨c, h, by rw [hc]; simp⟩
theorem take_snoc (s : ByteArray) (k : Nat) (h : k < s.size) : s.data.toList.take (k + 1) = s.data.toList.take k ++ [s[k]] := by
  rw [List.take_succ_eq_append_getElem (by simpa using h)]; rfl
theorem mem_at (s : ByteArray) (k : Nat) (h : k < s.size) : s[k] ∈ s.data.toList := by
  have : s[k] = s.data.toList[k]'(by simpa using h) := rfl
  rw [this]; exact List.getElem_mem _
theorem take_all (s : ByteArray) (k : Nat) (h : s.size ≤ k) : s.data.toList.take k = s.data.toList := List.take_of_length_le (by simpa using h)
theorem len_eq (s : ByteArray) : s.data.toList.length = s.size := by rw [Array.length_toList]; rfl
theorem pathL_false {s : ByteArray} (k : Nat) (h : k < s.size) (hc : pb (s[k].toNat : Int) = false) : pathL s.data.toList = false := by
  simp [pathL, okL_bad (mem_at s k h) hc]
theorem pathL_long {s : ByteArray} (h : 60 < s.size) : pathL s.data.toList = false := by
  have : ¬ s.data.toList.length ≤ 60 := by rw [len_eq]; omega
  simp only [pathL, this, decide_false, Bool.and_false]
theorem pathL_end {s : ByteArray} {k : Nat} (hk : s.size ≤ k) (hok : okL (s.data.toList.take k) = true) : pathL s.data.toList = decide (s.size ≤ 60) := by
  rw [take_all s k hk] at hok
  simp only [pathL, hok, len_eq, Bool.true_and]
theorem okL_next {s : ByteArray} {k : Nat} (h : k < s.size) (hok : okL (s.data.toList.take k) = true) (hc : pb (s[k].toNat : Int) = true) : okL (s.data.toList.take (k + 1)) = true := by
  rw [take_snoc s k h, okL_snoc, hok, hc]; rfl
theorem rooted_pos {s : ByteArray} (h : 0 < s.size) : rootedL s.data.toList = ((s[0].toNat : Int) == 47) := by
  have e : s.data.toList = s[0] :: s.data.toList.drop 1 := by
    have h' : 0 < s.data.toList.length := by simpa using h
    exact List.drop_eq_getElem_cons (l := s.data.toList) (i := 0) h'
  rw [e, rootedL, Bool.eq_iff_iff]
  simp only [beq_iff_eq]
  constructor
  · intro h1; rw [h1]; rfl
  · intro h1; exact UInt8.toNat_inj.1 (by have : (47 : UInt8).toNat = 47 := rfl; omega)
theorem rooted_nil {s : ByteArray} (h : s.size = 0) : rootedL s.data.toList = false := by
  have : s.data.toList = [] := List.eq_nil_of_length_eq_zero (by simpa using h)
  rw [this]; rfl

/-- What is read since the last slash: bytes f to k. -/
def mid (l : List UInt8) (f k : Nat) : List UInt8 := (l.take k).drop f
theorem mid_snoc (s : ByteArray) (f k : Nat) (hf : f ≤ k) (h : k < s.size) : mid s.data.toList f (k + 1) = mid s.data.toList f k ++ [s[k]] := by
  unfold mid
  rw [take_snoc s k h, List.drop_append_of_le_length]
  rw [List.length_take, len_eq]; omega
theorem mid_self (l : List UInt8) (k : Nat) : mid l k k = [] := by
  unfold mid; exact List.drop_of_length_le (by rw [List.length_take]; omega)
theorem drop_at (s : ByteArray) (k : Nat) (h : k < s.size) : s.data.toList.drop k = s[k] :: s.data.toList.drop (k + 1) :=
  List.drop_eq_getElem_cons (l := s.data.toList) (i := k) (by simpa using h)
theorem split_start (s : ByteArray) : splitL s.data.toList = [] ++ splitAux (mid s.data.toList 0 0).reverse (s.data.toList.drop 0) := by
  simp [splitL, mid]
theorem split_slash {s : ByteArray} {acc : List (List UInt8)} {f k : Nat} (h : k < s.size) (hc : s[k].toNat = 47) (e : splitL s.data.toList = acc ++ splitAux (mid s.data.toList f k).reverse (s.data.toList.drop k)) :
    splitL s.data.toList = (acc ++ [mid s.data.toList f k]) ++ splitAux (mid s.data.toList (k + 1) (k + 1)).reverse (s.data.toList.drop (k + 1)) := by
  have hc' : s[k] = 47 := UInt8.toNat_inj.1 (by rw [hc]; rfl)
  rw [e, drop_at s k h, splitAux, if_pos hc', mid_self]
  simp
theorem split_other {s : ByteArray} {acc : List (List UInt8)} {f k : Nat} (hf : f ≤ k) (h : k < s.size) (hc : ¬ s[k].toNat = 47) (e : splitL s.data.toList = acc ++ splitAux (mid s.data.toList f k).reverse (s.data.toList.drop k)) :
    splitL s.data.toList = acc ++ splitAux (mid s.data.toList f (k + 1)).reverse (s.data.toList.drop (k + 1)) := by
  have hc' : ¬ s[k] = 47 := fun h1 => hc (by rw [h1]; rfl)
  rw [e, drop_at s k h, splitAux, if_neg hc', mid_snoc s f k hf h]
  simp
theorem split_end {s : ByteArray} {acc : List (List UInt8)} {f k : Nat} (hk : s.size ≤ k) (e : splitL s.data.toList = acc ++ splitAux (mid s.data.toList f k).reverse (s.data.toList.drop k)) :
    splitL s.data.toList = acc ++ [mid s.data.toList f s.size] := by
  have h1 : s.data.toList.drop k = [] := List.drop_of_length_le (by rw [len_eq]; exact hk)
  have h2 : mid s.data.toList f k = mid s.data.toList f s.size := by unfold mid; rw [take_all s k hk, take_all s s.size (Nat.le_refl _)]
  rw [e, h1, splitAux, h2]
  simp

theorem splitAux_len (l : List UInt8) : ∀ cur, (splitAux cur l).length ≤ l.length + 1 := by
  induction l with
  | nil => intro cur; simp [splitAux]
  | cons c r ih =>
    intro cur
    rw [splitAux]
    split
    · have := ih []; simp only [List.length_cons]; omega
    · have := ih (c :: cur); simp only [List.length_cons]; omega
theorem split_len (s : ByteArray) : (splitL s.data.toList).length ≤ s.size + 1 := by
  have := splitAux_len s.data.toList []
  rw [len_eq] at this; exact this

theorem parts_step {L acc r : List (List UInt8)} {b : Bool} {p : List UInt8} {k : Nat} (hk : k < r.length) (hp : r[k] = p) (e : L = partsFrom b acc (r.drop k)) :
    L = partsFrom b (pstep b acc p) (r.drop (k + 1)) := by
  rw [e, List.drop_eq_getElem_cons hk, hp, partsFrom]
theorem parts_end {L acc r : List (List UInt8)} {b : Bool} {k : Nat} (hk : r.length ≤ k) (e : L = partsFrom b acc (r.drop k)) : L = acc := by
  rw [e, List.drop_of_length_le hk, partsFrom]
theorem pstep_skip {b : Bool} {acc : List (List UInt8)} {p : List UInt8} (h : p = [] ∨ p = [46]) : pstep b acc p = acc := by unfold pstep; rw [if_pos h]
theorem pstep_drop {b : Bool} {a : List (List UInt8)} {q : List UInt8} (h : ¬ q = dots) : pstep b (a ++ [q]) dots = a := by
  unfold pstep
  rw [if_neg (by decide), if_pos rfl, if_pos (by simpa using h)]
  simp
theorem pstep_stay0 : pstep true [] dots = [] := by decide
theorem pstep_stay (a : List (List UInt8)) : pstep true (a ++ [dots]) dots = a ++ [dots] := by
  unfold pstep
  rw [if_neg (by decide), if_pos rfl, if_neg (by simp), if_pos rfl]
theorem pstep_up0 : pstep false [] dots = [] ++ [dots] := by decide
theorem pstep_up (a : List (List UInt8)) : pstep false (a ++ [dots]) dots = (a ++ [dots]) ++ [dots] := by
  unfold pstep
  rw [if_neg (by decide), if_pos rfl, if_neg (by simp), if_neg (by decide)]
theorem pstep_name {b : Bool} {acc : List (List UInt8)} {p : List UInt8} (h0 : ¬ p = []) (h1 : ¬ p = [46]) (h2 : ¬ p = dots) : pstep b acc p = acc ++ [p] := by
  unfold pstep
  rw [if_neg (by simp [h0, h1]), if_neg h2]

end Pth
end Go.Proofs.YtgcaplbeahjbmaaGreatDoor

/- Plain mathematics of patterns: places, fits, stems; no program. -/
namespace Go.Proofs.YtgcaplbeahjbmaaGreatDoor
namespace Pth

/-- The byte may stand in a pattern. -/
def patB (c : UInt8) : Bool := pb (c.toNat : Int) || (c == 42) || (c == 63) || (c == 37)
def patOk (p : List UInt8) : Bool := p.all patB
def patL (p : List UInt8) : Bool := patOk p && (decide (1 ≤ p.length) && decide (p.length ≤ 20))

def hasL (l : List Int) (n : Int) : Bool := decide (n ∈ l)

def putL : List Int → Int → List Int
  | [], n => [n]
  | x :: t, n => if x < n then x :: putL t n else if x = n then x :: t else n :: x :: t

def closeFrom : List UInt8 → Nat → List Int → List Int
  | [], _, l => l
  | c :: t, i, l => closeFrom t (i + 1) (if c = 42 ∧ (i : Int) ∈ l then putL l ((i : Int) + 1) else l)
def closeL (p : List UInt8) (l : List Int) : List Int := closeFrom p 0 l

/-- What one place gives. -/
def step1 (p : List UInt8) (b : UInt8) (out : List Int) (k : Int) : List Int :=
  match p[k.toNat]? with
  | none => out
  | some c =>
    if c = 42 then (if b = 47 then out else putL out k)
    else if c = 37 then putL (putL out k) (k + 1)
    else if c = 63 then (if b = 47 then out else putL out (k + 1))
    else if c = b then putL out (k + 1) else out
def outL (p : List UInt8) (l : List Int) (b : UInt8) : List Int := l.foldl (step1 p b) []
def stepL (p : List UInt8) (l : List Int) (b : UInt8) : List Int := closeL p (outL p l b)
def startL (p : List UInt8) : List Int := closeL p [0]
def runL (p : List UInt8) (s : List UInt8) : List Int := s.foldl (stepL p) (startL p)
def fitsL (p s : List UInt8) : Bool := hasL (runL p s) p.length

/-- Rising and between two numbers. -/
def Rise (l : List Int) : Prop := l.Pairwise (· < ·)
def Within (lo hi : Int) (l : List Int) : Prop := ∀ x ∈ l, lo ≤ x ∧ x ≤ hi

theorem mem_put {l : List Int} {n x : Int} : x ∈ putL l n ↔ x = n ∨ x ∈ l := by
  induction l with
  | nil => simp [putL]
  | cons y t ih =>
    unfold putL
    split
    · simp only [List.mem_cons, ih]; constructor <;> rintro (h | h | h) <;> simp [h]
    · split
      · rename_i h; subst h; simp only [List.mem_cons]; constructor
        · exact .inr
        · rintro (h | h) <;> simp [h]
      · simp only [List.mem_cons]

theorem put_rise {l : List Int} {n : Int} (h : Rise l) : Rise (putL l n) := by
  induction l with
  | nil => simp [putL, Rise]
  | cons y t ih =>
    unfold Rise at h ih ⊢
    rw [List.pairwise_cons] at h
    unfold putL
    split
    · rename_i hy
      rw [List.pairwise_cons]
      refine ⟨fun x hx => ?_, ih h.2⟩
      rcases mem_put.1 hx with rfl | hx
      · exact hy
      · exact h.1 x hx
    · rename_i hy
      split
      · rw [List.pairwise_cons]; exact h
      · rw [List.pairwise_cons, List.pairwise_cons]
        refine ⟨fun x hx => ?_, h⟩
        rcases List.mem_cons.1 hx with rfl | hx
        · omega
        · have := h.1 x hx; omega

theorem put_within {lo hi n : Int} {l : List Int} (h : Within lo hi l) (h1 : lo ≤ n) (h2 : n ≤ hi) : Within lo hi (putL l n) := by
  intro x hx
  rcases mem_put.1 hx with rfl | hx
  · exact ⟨h1, h2⟩
  · exact h x hx

theorem rise_len {l : List Int} {lo hi : Int} (h : Rise l) (hw : Within lo hi l) (hl : lo ≤ hi + 1) : (l.length : Int) ≤ hi + 1 - lo := by
  induction l generalizing lo with
  | nil => simp; omega
  | cons y t ih =>
    unfold Rise at h ih
    rw [List.pairwise_cons] at h
    have hy := hw y (by simp)
    have := ih (lo := y + 1) h.2 (fun x hx => ⟨by have := h.1 x hx; omega, (hw x (by simp [hx])).2⟩) (by omega)
    simp only [List.length_cons]
    omega

theorem rise_ext {a b : List Int} (ha : Rise a) (hb : Rise b) (h : ∀ x, x ∈ a ↔ x ∈ b) : a = b := by
  induction a generalizing b with
  | nil =>
    cases b with
    | nil => rfl
    | cons y t => have := (h y).2 (by simp); simp at this
  | cons x r ih =>
    cases b with
    | nil => have := (h x).1 (by simp); simp at this
    | cons y t =>
      unfold Rise at ha hb ih
      rw [List.pairwise_cons] at ha hb
      have e : x = y := by
        have h1 := (h x).1 (by simp)
        have h2 := (h y).2 (by simp)
        rcases List.mem_cons.1 h1 with h1 | h1
        · exact h1
        · rcases List.mem_cons.1 h2 with h2 | h2
          · exact h2.symm
          · have := ha.1 y h2; have := hb.1 x h1; omega
      subst e
      congr 1
      refine ih ha.2 hb.2 (fun z => ?_)
      have hz := h z
      simp only [List.mem_cons] at hz
      constructor
      · intro h1
        rcases hz.1 (.inr h1) with h2 | h2
        · have := ha.1 z h1; omega
        · exact h2
      · intro h1
        rcases hz.2 (.inr h1) with h2 | h2
        · have := hb.1 z h1; omega
        · exact h2

def riseB (lo hi : Int) (l : List Int) : Bool := decide (l.Pairwise (· < ·)) && l.all (fun x => decide (lo ≤ x) && decide (x ≤ hi))
theorem riseB_iff {lo hi : Int} {l : List Int} : riseB lo hi l = true ↔ Rise l ∧ Within lo hi l := by
  simp [riseB, Rise, Within]
theorem riseB_false {lo hi : Int} {l : List Int} (h : ¬ (Rise l ∧ Within lo hi l)) : riseB lo hi l = false := by
  rw [← Bool.not_eq_true, riseB_iff]; exact h
theorem rise_next {lo hi : Int} {l : List Int} {k : Nat} (hk : k < l.length) (h : Rise (l.take k) ∧ Within lo hi (l.take k)) (h1 : lo ≤ l[k]) (h2 : l[k] ≤ hi) (h3 : ∀ h0 : 0 < k, l[k - 1] < l[k]) :
    Rise (l.take (k + 1)) ∧ Within lo hi (l.take (k + 1)) := by
  rw [List.take_succ_eq_append_getElem hk]
  obtain ⟨hr, hw⟩ := h
  constructor
  · unfold Rise at hr ⊢
    rw [List.pairwise_append]
    refine ⟨hr, by simp, fun x hx y hy => ?_⟩
    rw [List.mem_singleton] at hy
    subst hy
    obtain ⟨j, hj, rfl⟩ := List.mem_iff_getElem.1 hx
    rw [List.length_take] at hj
    have h0 : 0 < k := by omega
    have h4 := h3 h0
    rw [List.getElem_take]
    rcases Nat.lt_or_ge j (k - 1) with hj1 | hj1
    · have h5 := List.pairwise_iff_getElem.1 hr j (k - 1) (by rw [List.length_take]; omega) (by rw [List.length_take]; omega) hj1
      rw [List.getElem_take, List.getElem_take] at h5
      omega
    · have : j = k - 1 := by omega
      subst this
      exact h4
  · intro x hx
    rcases List.mem_append.1 hx with hx | hx
    · exact hw x hx
    · rw [List.mem_singleton] at hx; subst hx; exact ⟨h1, h2⟩
theorem rise_out {lo hi : Int} {l : List Int} {k : Nat} (hk : k < l.length) (h : l[k] < lo ∨ hi < l[k]) : riseB lo hi l = false :=
  riseB_false (fun hh => by have := hh.2 l[k] (List.getElem_mem hk); omega)
theorem rise_fall {lo hi : Int} {l : List Int} {k : Nat} (hk : k < l.length) (h0 : 0 < k) (h : l[k] ≤ l[k - 1]) : riseB lo hi l = false :=
  riseB_false (fun hh => by
    have := List.pairwise_iff_getElem.1 hh.1 (k - 1) k (by omega) hk (by omega)
    omega)

/-- What holds for all and is handed on over a star holds for all that are put in. -/
theorem close_ind {P : Int → Prop} (q : List UInt8) (i : Nat) (l : List Int) (hl : ∀ x ∈ l, P x)
    (hs : ∀ j, j < q.length → q[j]? = some 42 → P ((i + j : Nat) : Int) → P (((i + j : Nat) : Int) + 1)) : ∀ x ∈ closeFrom q i l, P x := by
  induction q generalizing i l with
  | nil => exact hl
  | cons c t ih =>
    unfold closeFrom
    refine ih (i + 1) _ ?_ ?_
    · split
      · rename_i hc
        intro x hx
        rcases mem_put.1 hx with rfl | hx
        · have := hs 0 (by simp) (by simp [hc.1]) (by simpa using hl _ hc.2)
          simpa using this
        · exact hl x hx
      · exact hl
    · intro j hj hq hP
      have e : ((i + 1 + j : Nat) : Int) = ((i + (j + 1) : Nat) : Int) := by omega
      rw [e] at hP ⊢
      exact hs (j + 1) (by simp; omega) (by simpa using hq) hP

theorem close_sub (q : List UInt8) (i : Nat) (l : List Int) {x : Int} (hx : x ∈ l) : x ∈ closeFrom q i l := by
  induction q generalizing i l with
  | nil => exact hx
  | cons c t ih =>
    unfold closeFrom
    apply ih
    split
    · exact mem_put.2 (.inr hx)
    · exact hx

theorem close_below (q : List UInt8) (i : Nat) (l : List Int) {x : Int} (hi : x ≤ i) : x ∈ closeFrom q i l ↔ x ∈ l := by
  induction q generalizing i l with
  | nil => exact Iff.rfl
  | cons c t ih =>
    unfold closeFrom
    rw [ih (i + 1) _ (by omega)]
    split
    · rw [mem_put]; constructor
      · rintro (h | h)
        · omega
        · exact h
      · exact .inr
    · exact Iff.rfl

theorem close_star (q : List UInt8) (i j : Nat) (l : List Int) (hj : q[j]? = some 42) (hx : ((i + j : Nat) : Int) ∈ closeFrom q i l) : ((i + j : Nat) : Int) + 1 ∈ closeFrom q i l := by
  induction q generalizing i j l with
  | nil => simp at hj
  | cons c t ih =>
    unfold closeFrom at hx ⊢
    cases j with
    | zero =>
      simp only [List.getElem?_cons_zero, Option.some.injEq] at hj
      rw [close_below t (i + 1) _ (by omega)] at hx
      have hx2 : (i : Int) ∈ l := by
        split at hx
        · rcases mem_put.1 hx with h | h
          · omega
          · simpa using h
        · simpa using hx
      rw [if_pos ⟨hj, hx2⟩]
      exact close_sub _ _ _ (mem_put.2 (.inl (by simp)))
    | succ j =>
      have e : i + (j + 1) = i + 1 + j := by omega
      rw [e] at hx ⊢
      exact ih (i + 1) j _ (by simpa using hj) hx

theorem close_rise (q : List UInt8) (i : Nat) {l : List Int} (h : Rise l) : Rise (closeFrom q i l) := by
  induction q generalizing i l with
  | nil => exact h
  | cons c t ih =>
    unfold closeFrom
    apply ih
    split
    · exact put_rise h
    · exact h

theorem close_within (p : List UInt8) {l : List Int} (h : Within 0 p.length l) : Within 0 p.length (closeL p l) := by
  refine close_ind (P := fun x => 0 ≤ x ∧ x ≤ p.length) p 0 l h ?_
  intro j hj _ _
  omega

/-- The places that one place gives. -/
theorem mem_step1 {p : List UInt8} {b : UInt8} {out : List Int} {k x : Int} : x ∈ step1 p b out k ↔ x ∈ out ∨ x ∈ step1 p b [] k := by
  unfold step1
  split
  · simp
  · repeat' split
    all_goals simp only [mem_put, List.not_mem_nil, or_false]
    all_goals try exact Or.comm
    all_goals constructor <;> (intro h; rcases h with h | h | h) <;> simp [h]

theorem step1_rise {p : List UInt8} {b : UInt8} {out : List Int} {k : Int} (h : Rise out) : Rise (step1 p b out k) := by
  unfold step1
  split
  · exact h
  · repeat' split
    all_goals first | exact h | exact put_rise (put_rise h) | exact put_rise h

theorem step1_within {p : List UInt8} {b : UInt8} {out : List Int} {k : Int} (h : Within 0 p.length out) (hk : 0 ≤ k) : Within 0 p.length (step1 p b out k) := by
  unfold step1
  split
  · exact h
  · rename_i c hc
    have hlt : k.toNat < p.length := by
      rw [List.getElem?_eq_some_iff] at hc
      exact hc.1
    repeat' split
    all_goals first
      | exact h
      | exact put_within (put_within h (by omega) (by omega)) (by omega) (by omega)
      | exact put_within h (by omega) (by omega)

theorem foldl_mem {p : List UInt8} {b : UInt8} (l : List Int) (out : List Int) {x : Int} : x ∈ l.foldl (step1 p b) out ↔ x ∈ out ∨ ∃ k ∈ l, x ∈ step1 p b [] k := by
  induction l generalizing out with
  | nil => simp
  | cons y t ih =>
    rw [List.foldl_cons, ih, mem_step1]
    simp only [List.mem_cons, exists_eq_or_imp, or_assoc]

theorem mem_out {p : List UInt8} {b : UInt8} {l : List Int} {x : Int} : x ∈ outL p l b ↔ ∃ k ∈ l, x ∈ step1 p b [] k := by
  rw [outL, foldl_mem]; simp

theorem foldl_rise {p : List UInt8} {b : UInt8} (l : List Int) {out : List Int} (h : Rise out) : Rise (l.foldl (step1 p b) out) := by
  induction l generalizing out with
  | nil => exact h
  | cons y t ih => rw [List.foldl_cons]; exact ih (step1_rise h)

theorem foldl_within {p : List UInt8} {b : UInt8} (l : List Int) {out : List Int} (h : Within 0 p.length out) (hl : Within 0 p.length l) : Within 0 p.length (l.foldl (step1 p b) out) := by
  induction l generalizing out with
  | nil => exact h
  | cons y t ih => rw [List.foldl_cons]; exact ih (step1_within h (hl y (by simp)).1) (fun x hx => hl x (by simp [hx]))

theorem step_rise (p : List UInt8) (l : List Int) (b : UInt8) : Rise (stepL p l b) := close_rise _ _ (foldl_rise _ .nil)
theorem step_within {p : List UInt8} {l : List Int} (b : UInt8) (h : Within 0 p.length l) : Within 0 p.length (stepL p l b) :=
  close_within p (foldl_within l (fun _ hx => by simp at hx) h)
theorem start_rise (p : List UInt8) : Rise (startL p) := close_rise _ _ (by simp [Rise])
theorem start_within (p : List UInt8) : Within 0 p.length (startL p) := close_within p (fun x hx => by simp at hx; omega)
theorem run_rise (p s : List UInt8) : Rise (runL p s) := by
  unfold runL
  generalize h : startL p = l
  have hl : Rise l := h ▸ start_rise p
  clear h
  induction s generalizing l with
  | nil => exact hl
  | cons b t ih => exact ih _ (step_rise p l b)
theorem run_within (p s : List UInt8) : Within 0 p.length (runL p s) := by
  unfold runL
  generalize h : startL p = l
  have hl : Within 0 p.length l := h ▸ start_within p
  clear h
  induction s generalizing l with
  | nil => exact hl
  | cons b t ih => exact ih _ (step_within b hl)
theorem rise_len21 {p : List UInt8} {l : List Int} (h : Rise l) (hw : Within 0 p.length l) : l.length ≤ p.length + 1 := by
  have := rise_len h hw (by omega)
  omega

theorem step1_some {p : List UInt8} {k : Nat} {c : UInt8} (h : p[k]? = some c) (b : UInt8) : step1 p b [] (k : Int) =
    if c = 42 then (if b = 47 then [] else [(k : Int)]) else if c = 37 then [(k : Int), (k : Int) + 1] else if c = 63 then (if b = 47 then [] else [(k : Int) + 1]) else if c = b then [(k : Int) + 1] else [] := by
  have h2 : p[(k : Int).toNat]? = some c := h
  unfold step1
  rw [h2]
  have e : putL [(k : Int)] ((k : Int) + 1) = [(k : Int), (k : Int) + 1] := by simp [putL]; omega
  simp only [putL, e]

/-- A pattern, read from its front. -/
def fitM : List UInt8 → List UInt8 → Bool
  | [], s => s.isEmpty
  | c :: p, s =>
    if c = 42 then fitM p s || (match s with
      | [] => false
      | d :: r => !(d == 47) && fitM (c :: p) r)
    else match s with
      | [] => false
      | d :: r =>
        if c = 37 then fitM p r || fitM (c :: p) r
        else if c = 63 then !(d == 47) && fitM p r
        else (d == c) && fitM p r
termination_by p s => p.length + s.length

theorem fitM_nil (s : List UInt8) : fitM [] s = s.isEmpty := by rw [fitM]
theorem fitM_star_nil (p : List UInt8) : fitM (42 :: p) [] = fitM p [] := by rw [fitM]; simp
theorem fitM_star (p : List UInt8) (d : UInt8) (r : List UInt8) : fitM (42 :: p) (d :: r) = (fitM p (d :: r) || !(d == 47) && fitM (42 :: p) r) := by rw [fitM]; simp
theorem fitM_none {c : UInt8} (p : List UInt8) (h : c ≠ 42) : fitM (c :: p) [] = false := by rw [fitM]; simp [h]
theorem fitM_stem (p : List UInt8) (d : UInt8) (r : List UInt8) : fitM (37 :: p) (d :: r) = (fitM p r || fitM (37 :: p) r) := by rw [fitM]; simp
theorem fitM_one (p : List UInt8) (d : UInt8) (r : List UInt8) : fitM (63 :: p) (d :: r) = (!(d == 47) && fitM p r) := by rw [fitM]; simp
theorem fitM_same {c : UInt8} (p : List UInt8) (d : UInt8) (r : List UInt8) (h1 : c ≠ 42) (h2 : c ≠ 37) (h3 : c ≠ 63) : fitM (c :: p) (d :: r) = ((d == c) && fitM p r) := by rw [fitM]; simp [h1, h2, h3]
theorem fitM_skip (p s : List UInt8) (h : fitM p s = true) : fitM (42 :: p) s = true := by
  cases s with
  | nil => rw [fitM_star_nil]; exact h
  | cons d r => rw [fitM_star, h]; rfl

def Closed (p : List UInt8) (l : List Int) : Prop := ∀ j : Nat, p[j]? = some 42 → (j : Int) ∈ l → (j : Int) + 1 ∈ l
theorem closed_close (p : List UInt8) (l : List Int) : Closed p (closeL p l) := by
  intro j hj hx
  have := close_star p 0 j l hj (by simpa [closeL] using hx)
  simpa [closeL] using this

theorem drop_some {p : List UInt8} {k : Nat} {c : UInt8} (h : p[k]? = some c) : p.drop k = c :: p.drop (k + 1) := by
  rw [List.getElem?_eq_some_iff] at h
  obtain ⟨hk, rfl⟩ := h
  rw [List.drop_eq_getElem_cons hk]

theorem at_or {p : List UInt8} {k : Nat} (h : k ≤ p.length) : k = p.length ∨ ∃ c, p[k]? = some c ∧ k < p.length := by
  rcases Nat.lt_or_ge k p.length with h1 | h1
  · exact .inr ⟨p[k], by simp [h1], h1⟩
  · exact .inl (by omega)

theorem acc_nil {p : List UInt8} {l : List Int} (hc : Closed p l) (n : Nat) : ∀ k : Nat, p.length - k = n → k ≤ p.length → (k : Int) ∈ l → fitM (p.drop k) [] = true → (p.length : Int) ∈ l := by
  induction n with
  | zero =>
    intro k h1 h2 h3 _
    have : k = p.length := by omega
    subst this; exact h3
  | succ n ih =>
    intro k h1 h2 h3 h4
    rcases at_or h2 with rfl | ⟨c, hk, hlt⟩
    · omega
    · rw [drop_some hk] at h4
      by_cases h42 : c = 42
      · subst h42
        rw [fitM_star_nil] at h4
        exact ih (k + 1) (by omega) (by omega) (by have := hc k hk h3; simpa using this) h4
      · rw [fitM_none _ h42] at h4; cases h4

theorem acc_step_to {p : List UInt8} {l : List Int} {b : UInt8} {t : List UInt8} (hc : Closed p l) (n : Nat) : ∀ k : Nat, p.length - k = n → k ≤ p.length → (k : Int) ∈ l → fitM (p.drop k) (b :: t) = true →
    ∃ j : Nat, (j : Int) ∈ stepL p l b ∧ fitM (p.drop j) t = true := by
  have put : ∀ (k : Nat) (x : Int), (k : Int) ∈ l → x ∈ step1 p b [] k → x ∈ stepL p l b := fun k x h1 h2 => close_sub _ _ _ (mem_out.2 ⟨k, h1, h2⟩)
  induction n with
  | zero =>
    intro k h1 h2 h3 h4
    have : k = p.length := by omega
    subst this
    simp [fitM_nil] at h4
  | succ n ih =>
    intro k h1 h2 h3 h4
    rcases at_or h2 with rfl | ⟨c, hk, hlt⟩
    · omega
    · have hd := drop_some hk
      rw [hd] at h4
      have hk2 : p[(k : Int).toNat]? = some c := by simpa using hk
      by_cases h42 : c = 42
      · subst h42
        rw [fitM_star, Bool.or_eq_true, Bool.and_eq_true] at h4
        rcases h4 with h4 | ⟨h4, h5⟩
        · exact ih (k + 1) (by omega) (by omega) (by have := hc k hk h3; simpa using this) h4
        · refine ⟨k, put k k h3 ?_, by rw [hd]; exact h5⟩
          have hb : b ≠ 47 := by simpa using h4
          rw [step1_some hk]; simp [hb]
      · by_cases h37 : c = 37
        · subst h37
          rw [fitM_stem, Bool.or_eq_true] at h4
          rcases h4 with h4 | h4
          · exact ⟨k + 1, put k _ h3 (by rw [step1_some hk]; simp), h4⟩
          · exact ⟨k, put k _ h3 (by rw [step1_some hk]; simp), by rw [hd]; exact h4⟩
        · by_cases h63 : c = 63
          · subst h63
            rw [fitM_one, Bool.and_eq_true] at h4
            have hb : b ≠ 47 := by simpa using h4.1
            exact ⟨k + 1, put k _ h3 (by rw [step1_some hk]; simp [hb]), h4.2⟩
          · rw [fitM_same _ _ _ h42 h37 h63, Bool.and_eq_true] at h4
            have hb : c = b := by simpa using (beq_iff_eq.1 h4.1).symm
            exact ⟨k + 1, put k _ h3 (by subst hb; rw [step1_some hk]; simp [h42, h37, h63]), h4.2⟩

theorem acc_step_of {p : List UInt8} {l : List Int} {b : UInt8} {t : List UInt8} (hw : Within 0 p.length l) : ∀ x ∈ stepL p l b, fitM (p.drop x.toNat) t = true → ∃ k : Nat, (k : Int) ∈ l ∧ fitM (p.drop k) (b :: t) = true := by
  refine close_ind (P := fun x => fitM (p.drop x.toNat) t = true → ∃ k : Nat, (k : Int) ∈ l ∧ fitM (p.drop k) (b :: t) = true) p 0 _ ?_ ?_
  · intro x hx0 hf
    obtain ⟨k, hk, hx⟩ := mem_out.1 hx0
    clear hx0
    have hk0 := (hw k hk).1
    refine ⟨k.toNat, by rw [Int.toNat_of_nonneg hk0]; exact hk, ?_⟩
    unfold step1 at hx
    split at hx
    · simp at hx
    · rename_i c hc
      have hd := drop_some hc
      rw [hd]
      have e1 : (k + 1).toNat = k.toNat + 1 := by omega
      split at hx
      · rename_i h; subst h
        split at hx
        · simp at hx
        · rename_i hb
          simp only [mem_put, List.not_mem_nil, or_false] at hx
          subst hx
          rw [hd] at hf
          rw [fitM_star, hf]; simp [hb]
      · rename_i h42
        split at hx
        · rename_i h; subst h
          simp only [mem_put, List.not_mem_nil, or_false] at hx
          rcases hx with rfl | rfl
          · rw [e1] at hf; rw [fitM_stem, hf]; rfl
          · rw [hd] at hf; rw [fitM_stem, hf]; simp
        · rename_i h37
          split at hx
          · rename_i h; subst h
            split at hx
            · simp at hx
            · rename_i hb
              simp only [mem_put, List.not_mem_nil, or_false] at hx
              subst hx
              rw [e1] at hf; rw [fitM_one, hf]; simp [hb]
          · rename_i h63
            split at hx
            · rename_i hb
              simp only [mem_put, List.not_mem_nil, or_false] at hx
              subst hb
              subst hx
              rw [e1] at hf; rw [fitM_same _ _ _ h42 h37 h63, hf]; simp
            · simp at hx
  · intro j hj hq hP hf
    apply hP
    have e1 : (((0 + j : Nat) : Int) + 1).toNat = j + 1 := by omega
    have e2 : ((0 + j : Nat) : Int).toNat = j := by omega
    rw [e1] at hf
    rw [e2, drop_some hq]
    exact fitM_skip _ _ hf

theorem acc_all {p : List UInt8} (s : List UInt8) : ∀ l : List Int, Closed p l → Within 0 p.length l → (((p.length : Int) ∈ s.foldl (stepL p) l) ↔ ∃ k : Nat, (k : Int) ∈ l ∧ fitM (p.drop k) s = true) := by
  induction s with
  | nil =>
    intro l hc hw
    constructor
    · intro h; exact ⟨p.length, h, by simp [fitM_nil]⟩
    · rintro ⟨k, hk, hf⟩
      exact acc_nil hc _ k rfl (by have := (hw _ hk).2; omega) hk hf
  | cons b t ih =>
    intro l hc hw
    rw [List.foldl_cons, ih (stepL p l b) (closed_close p _) (step_within b hw)]
    constructor
    · rintro ⟨k, hk, hf⟩
      exact acc_step_of hw k hk (by simpa using hf)
    · rintro ⟨k, hk, hf⟩
      exact acc_step_to hc _ k rfl (by have := (hw _ hk).2; omega) hk hf

/-- Places and the reading from the front tell the same. -/
theorem fits_fitM (p s : List UInt8) : fitsL p s = fitM p s := by
  rw [Bool.eq_iff_iff, fitsL, hasL, decide_eq_true_iff, runL, acc_all s (startL p) (closed_close p _) (start_within p)]
  constructor
  · rintro ⟨k, hk, hf⟩
    have h : ∀ x ∈ startL p, fitM (p.drop x.toNat) s = true → fitM p s = true := by
      refine close_ind (P := fun x => fitM (p.drop x.toNat) s = true → fitM p s = true) p 0 [0] ?_ ?_
      · intro x hx; simp only [List.mem_singleton] at hx; subst hx; simp
      · intro j hj hq hP hf
        apply hP
        have e1 : (((0 + j : Nat) : Int) + 1).toNat = j + 1 := by omega
        have e2 : ((0 + j : Nat) : Int).toNat = j := by omega
        rw [e1] at hf
        rw [e2, drop_some hq]
        exact fitM_skip _ _ hf
    exact h k hk (by simpa using hf)
  · intro h
    exact ⟨0, close_sub _ _ _ (by simp), by simpa using h⟩

/-- No star, no question mark, no percent sign. -/
def plainB (c : UInt8) : Bool := !(c == 42) && !(c == 63) && !(c == 37)
theorem pb_plain {c : UInt8} (h : pb (c.toNat : Int) = true) : plainB c = true := by
  have h42 : c ≠ 42 := by rintro rfl; exact absurd h (by decide)
  have h63 : c ≠ 63 := by rintro rfl; exact absurd h (by decide)
  have h37 : c ≠ 37 := by rintro rfl; exact absurd h (by decide)
  simp [plainB, h42, h63, h37]
theorem plain_pb {c : UInt8} (h : patB c = true) (hp : plainB c = true) : pb (c.toNat : Int) = true := by
  simp only [plainB, Bool.and_eq_true, Bool.not_eq_true'] at hp
  simpa [patB, hp.1.1, hp.1.2, hp.2] using h
theorem plain_fit {p : List UInt8} (h : p.all plainB = true) (s : List UInt8) : fitM p s = decide (s = p) := by
  induction p generalizing s with
  | nil => rw [fitM_nil]; cases s <;> simp
  | cons c t ih =>
    rw [List.all_cons, Bool.and_eq_true] at h
    obtain ⟨hc, ht⟩ := h
    simp only [plainB, Bool.and_eq_true, Bool.not_eq_true', beq_eq_false_iff_ne] at hc
    cases s with
    | nil => rw [fitM_none _ hc.1.1]; simp
    | cons d r => rw [fitM_same _ _ _ hc.1.1 hc.2 hc.1.2, ih ht, Bool.eq_iff_iff]; simp
theorem path_fit {p s : List UInt8} (h : okL p = true) : fitsL p s = decide (s = p) := by
  rw [fits_fitM, plain_fit]
  rw [List.all_eq_true]
  intro c hc
  exact pb_plain (by rw [okL, List.all_eq_true] at h; exact h c hc)

/-- Where the one percent sign stands. -/
def stemFrom : List UInt8 → Nat → Int → Int
  | [], _, k => k
  | c :: t, i, k => if c = 42 ∨ c = 63 then -1 else if c = 37 then (if 0 ≤ k then -1 else stemFrom t (i + 1) i) else stemFrom t (i + 1) k
def stemAt (p : List UInt8) : Int := stemFrom p 0 (-1)

theorem stem_found (q : List UInt8) (i k : Nat) : stemFrom q i k = if q.all plainB then (k : Int) else -1 := by
  induction q generalizing i with
  | nil => rfl
  | cons c t ih =>
    unfold stemFrom
    by_cases h1 : c = 42 ∨ c = 63
    · rw [if_pos h1]; rcases h1 with rfl | rfl <;> simp [plainB]
    · rw [if_neg h1]
      by_cases h2 : c = 37
      · subst h2; simp [plainB]
      · rw [if_neg h2, ih]
        have : plainB c = true := by simp only [not_or] at h1; simp [plainB, h1.1, h1.2, h2]
        rw [List.all_cons, this, Bool.true_and]

theorem stem_split (q : List UInt8) (i : Nat) : stemFrom q i (-1) = -1 ∨ ∃ a b, q = a ++ 37 :: b ∧ stemFrom q i (-1) = ((i + a.length : Nat) : Int) ∧ a.all plainB = true ∧ b.all plainB = true := by
  induction q generalizing i with
  | nil => exact .inl rfl
  | cons c t ih =>
    unfold stemFrom
    by_cases h1 : c = 42 ∨ c = 63
    · rw [if_pos h1]; exact .inl rfl
    · rw [if_neg h1]
      by_cases h2 : c = 37
      · subst h2
        rw [if_pos rfl, if_neg (by decide), stem_found]
        by_cases h3 : t.all plainB = true
        · rw [if_pos h3]; exact .inr ⟨[], t, rfl, by simp, rfl, h3⟩
        · rw [if_neg h3]; exact .inl rfl
      · rw [if_neg h2]
        rcases ih (i + 1) with h | ⟨a, b, rfl, h, ha, hb⟩
        · exact .inl h
        · refine .inr ⟨c :: a, b, rfl, by rw [h]; simp; omega, ?_, hb⟩
          simp only [not_or] at h1
          rw [List.all_cons, ha]; simp [plainB, h1.1, h1.2, h2]

theorem stem_cases (p : List UInt8) : stemAt p = -1 ∨ ∃ a b, p = a ++ 37 :: b ∧ stemAt p = (a.length : Int) ∧ a.all plainB = true ∧ b.all plainB = true := by
  have := stem_split p 0
  simpa [stemAt] using this

theorem front_fit {a : List UInt8} (ha : a.all plainB = true) (q s : List UInt8) : fitM (a ++ q) s = true ↔ ∃ r, s = a ++ r ∧ fitM q r = true := by
  induction a generalizing s with
  | nil => simp
  | cons c t ih =>
    rw [List.all_cons, Bool.and_eq_true] at ha
    obtain ⟨hc, ht⟩ := ha
    simp only [plainB, Bool.and_eq_true, Bool.not_eq_true', beq_eq_false_iff_ne] at hc
    cases s with
    | nil => rw [List.cons_append, fitM_none _ hc.1.1]; simp
    | cons d r =>
      rw [List.cons_append, fitM_same _ _ _ hc.1.1 hc.2 hc.1.2, Bool.and_eq_true, ih ht, beq_iff_eq]
      constructor
      · rintro ⟨rfl, r', rfl, h⟩; exact ⟨r', rfl, h⟩
      · rintro ⟨r', h, h2⟩
        rw [List.cons_append, List.cons.injEq] at h
        exact ⟨h.1, r', h.2, h2⟩

theorem back_fit {b : List UInt8} (hb : b.all plainB = true) (s : List UInt8) : fitM (37 :: b) s = true ↔ ∃ t, t ≠ [] ∧ s = t ++ b := by
  induction s with
  | nil => rw [fitM_none _ (by decide)]; simp; exact fun x h1 h2 => absurd h2 h1
  | cons d r ih =>
    rw [fitM_stem, Bool.or_eq_true, ih, plain_fit hb, decide_eq_true_iff]
    constructor
    · rintro (rfl | ⟨t, ht, rfl⟩)
      · exact ⟨[d], by simp, rfl⟩
      · exact ⟨d :: t, by simp, rfl⟩
    · rintro ⟨t, ht, h⟩
      cases t with
      | nil => exact absurd rfl ht
      | cons e u =>
        rw [List.cons_append, List.cons.injEq] at h
        cases u with
        | nil => exact .inl (by simpa using h.2)
        | cons f v => exact .inr ⟨f :: v, by simp, h.2⟩

/-- A pattern with one percent sign fits what it is filled to. -/
theorem stem_fit {a b : List UInt8} (ha : a.all plainB = true) (hb : b.all plainB = true) (s : List UInt8) : fitsL (a ++ 37 :: b) s = true ↔ ∃ t, t ≠ [] ∧ s = a ++ t ++ b := by
  rw [fits_fitM, front_fit ha]
  constructor
  · rintro ⟨r, rfl, h⟩
    obtain ⟨t, ht, rfl⟩ := (back_fit hb r).1 h
    exact ⟨t, ht, by simp⟩
  · rintro ⟨t, ht, rfl⟩
    exact ⟨t ++ b, by simp, (back_fit hb _).2 ⟨t, ht, rfl⟩⟩

end Pth
end Go.Proofs.YtgcaplbeahjbmaaGreatDoor

/- Lists of cells: read wherever they lie, put behind one of the call's own. -/
namespace Go.Proofs.YtgcaplbeahjbmaaGreatDoor
open Go.RowKit Pth

theorem ret_bool {a b : Bool} (h : a = b) : Ending.returned (.bool a) = .returned (.bool b) := by rw [h]

theorem lt_of_block {w : World} {b : Nat} {o : Obj} (h : w.heap[b]? = some o) : b < w.heap.size := by
  rcases Nat.lt_or_ge b w.heap.size with h' | h'
  · exact h'
  · rw [Array.getElem?_eq_none h'] at h; cases h

theorem one_new (w : World) (x : Value) (t : TypeId) : ∀ j u, [x][j]? = some u → (w.alloc (.cells #[x] t)).cell? ((⟨w.heap.size, 0, none⟩ : Addr).add j) = some u := by
  intro j u hj
  match j, hj with
  | 0, hj => simp at hj; subst hj; simp [Addr.add]

theorem own_slice {w : World} {B e n : Nat} {v : Value} {xs : List Value} (h : w.ownsRow B e 1 v n xs) : ∃ a c, v = .slice a n c := by
  rcases h.2 with ⟨hv, h0⟩ | ⟨g, cap, cur, hv, _⟩
  · exact ⟨none, 0, by rw [hv, h0]⟩
  · exact ⟨_, _, hv⟩

theorem add_addr (g o k : Nat) : (⟨g, o, none⟩ : Addr).add k = ⟨g, o + k, none⟩ := by unfold Addr.add; split <;> simp_all

theorem addr_inj {g o g' o' : Nat} (h : (some (⟨g, o, none⟩ : Addr)) = some ⟨g', o', none⟩) : g = g' ∧ o = o' := by
  injection h with h
  injection h with h1 h2
  exact ⟨h1, h2⟩

/-- A slice that reads as a list of cells, wherever it lies. -/
def RowV (w : World) (v : Value) (xs : List Value) : Prop :=
  ∃ a c, v = .slice a xs.length c ∧ xs.length ≤ c ∧ c ≤ maxLen ∧ ∀ k (hk : k < xs.length), ∃ g o, a = some ⟨g, o, none⟩ ∧ g < w.heap.size ∧ w.cell? ⟨g, o + k, none⟩ = some xs[k]

theorem RowV.of_own {w : World} {B e n : Nat} {v : Value} {xs : List Value} (h : w.ownsRow B e 1 v n xs) : RowV w v xs := by
  have hn : xs.length = n := by have := h.1; omega
  rcases h.2 with ⟨hv, h0⟩ | ⟨g, cap, cur, hv, hB, hh, hnc, hcm, hsz, htake⟩
  · refine ⟨none, 0, by rw [hv, hn, h0], by omega, by unfold maxLen; omega, fun k hk => by omega⟩
  · refine ⟨some ⟨g, 0, none⟩, cap, by rw [hv, hn], by omega, hcm, fun k hk => ⟨g, 0, rfl, lt_of_block hh, ?_⟩⟩
    have := h.cells (g := g) (by rw [hv]; rfl) k xs[k] (by simp [hk])
    rw [add_addr] at this
    exact this
theorem RowV.alloc {w : World} {v : Value} {xs : List Value} (h : RowV w v xs) (o : Obj) : RowV (w.alloc o) v xs := by
  obtain ⟨a, c, hv, h1, h2, hat⟩ := h
  refine ⟨a, c, hv, h1, h2, fun k hk => ?_⟩
  obtain ⟨g, o', ha, hg, hc⟩ := hat k hk
  exact ⟨g, o', ha, by simp; omega, by rw [World.cell?_alloc_lt _ _ _ hg]; exact hc⟩
theorem RowV.below {w w' : World} {v : Value} {xs : List Value} (h : RowV w v xs) (hb : Below w.heap.size w w') : RowV w' v xs := by
  obtain ⟨a, c, hv, h1, h2, hat⟩ := h
  refine ⟨a, c, hv, h1, h2, fun k hk => ?_⟩
  obtain ⟨g, o', ha, hg, hc⟩ := hat k hk
  exact ⟨g, o', ha, by have := hb.size; omega, by rw [hb.cell (p := ⟨g, o' + k, none⟩) hg]; exact hc⟩
/-- The front of it. -/
theorem RowV.front {w : World} {a : Option Addr} {c : Nat} {xs : List Value} (h : RowV w (.slice a xs.length c) xs) (k : Nat) (hk : k ≤ xs.length) : RowV w (.slice a k c) (xs.take k) := by
  obtain ⟨a', c', hv, h1, h2, hat⟩ := h
  injection hv with e1 e2 e3
  subst e1 e3
  have hl : (xs.take k).length = k := by rw [List.length_take]; omega
  refine ⟨a, c, by rw [hl], by omega, h2, fun j hj => ?_⟩
  obtain ⟨g, o, ha, hg, hc⟩ := hat j (by omega)
  exact ⟨g, o, ha, hg, by rw [List.getElem_take]; exact hc⟩
/-- What is behind k of it. -/
theorem RowV.back {w : World} {a : Option Addr} {c : Nat} {xs : List Value} (h : RowV w (.slice a xs.length c) xs) (k : Nat) (hk : k ≤ xs.length) :
    RowV w (.slice (if c = k then a else a.map (·.add (k * 1))) (xs.length - k) (c - k)) (xs.drop k) := by
  obtain ⟨a', c', hv, h1, h2, hat⟩ := h
  injection hv with e1 e2 e3
  subst e1 e3
  refine ⟨_, _, by rw [List.length_drop], by rw [List.length_drop]; omega, by omega, fun j hj => ?_⟩
  rw [List.length_drop] at hj
  obtain ⟨g, o, ha, hg, hcell⟩ := hat (k + j) (by omega)
  refine ⟨g, o + k, ?_, hg, ?_⟩
  · rw [if_neg (by omega), ha, Option.map_some, add_addr, Nat.mul_one]
  · rw [List.getElem_drop, Nat.add_assoc]; exact hcell

/-- The element type of a slice type, its zero and its size. -/
structure Elem (t e : TypeId) (z : Value) (bytes : Nat) : Prop where
  under : Tryz.prog.underlying t = some (.slice e)
  info : (Tryz.prog.info? e).map (fun i => (i.zero, i.size, i.bytes)) = some (some z, 1, bytes)
  one : z.cells.size = 1
  small : bytes ≤ 100

theorem info_parts {e : TypeId} {z : Value} {s b : Nat} (h : (Tryz.prog.info? e).map (fun i => (i.zero, i.size, i.bytes)) = some (some z, s, b)) :
    ∃ i, Tryz.prog.info? e = some i ∧ i.zero = some z ∧ i.size = s ∧ i.bytes = b := by
  obtain ⟨i, hi, he⟩ := Option.map_eq_some_iff.1 h
  simp only [Prod.mk.injEq] at he
  exact ⟨i, hi, he.1, he.2.1, he.2.2⟩

theorem run_app_none {t e : TypeId} {z : Value} {bytes : Nat} (E : Elem t e z bytes) (w : World) (B n c : Nat) (ty : TypeId) (v : Value) (xs : List Value) (hown : w.ownsRow B e 1 v n xs) :
    (Builtin.append_ #[t, t] ty #[v, .slice none 0 c]).run Tryz.prog w = .ok v w := by
  obtain ⟨i0, hi, hz0, hz1, hz2⟩ := info_parts E.info
  rcases hown.2 with ⟨rfl, rfl⟩ | ⟨g, cap, cur, rfl, _, _, hnc, _⟩
  · simp [Builtin.append_, run_underlying E.under, sizeOf, typeInfo, hi, Builtin.lenOf, Builtin.firstCells]
  · simp [Builtin.append_, run_underlying E.under, sizeOf, typeInfo, hi, Builtin.lenOf, Builtin.firstCells, hnc, storeCells]

theorem run_app_row {t e : TypeId} {z : Value} {bytes : Nat} (E : Elem t e z bytes) (w : World) (B : Nat) (ty : TypeId) (v : Value) (xs ys : List Value) (A : Option Addr) (c : Nat) (hown : w.ownsRow B e 1 v xs.length xs) (hrow : RowV w (.slice A ys.length c) ys)
    (hone : ∀ u ∈ ys, u.oneCell' = true) (hlen : xs.length + ys.length ≤ 1000000) (hB : B ≤ w.heap.size) :
    ∃ v' w', (Builtin.append_ #[t, t] ty #[v, .slice A ys.length c]).run Tryz.prog w = .ok v' w' ∧ w'.ownsRow B e 1 v' (xs ++ ys).length (xs ++ ys) ∧ w.grownBy w' v.ownBlock := by
  obtain ⟨i0, hi, hz0, hz1, hz2⟩ := info_parts E.info
  obtain ⟨A', c', hv, h1, h2, hat⟩ := hrow
  injection hv with hA _ _
  subst hA
  have go : ∀ ad : Addr, (∀ j u, ys[j]? = some u → w.cell? (ad.add j) = some u) → ∃ v' w', (Builtin.append_ #[t, t] ty #[v, .slice (some ad) ys.length c]).run Tryz.prog w = .ok v' w' ∧ w'.ownsRow B e 1 v' (xs ++ ys).length (xs ++ ys) ∧ w.grownBy w' v.ownBlock := by
    intro ad hc
    obtain ⟨v', w', h1, h2, h3, _⟩ := run_append_own (P := Tryz.prog) w B t ty e i0 z 1 bytes E.under hi hz0 hz1 hz2 E.one (by decide) v xs.length xs hown ad ys.length c ys (by omega) hc hone (by unfold maxLen; omega)
      (Nat.le_trans (Nat.mul_le_mul hlen E.small) (by decide)) hB
    exact ⟨v', w', h1, by rw [List.length_append]; exact h2, h3⟩
  rcases ys with _ | ⟨p, q⟩
  · rcases A with _ | ad
    · exact ⟨v, w, run_app_none E w B xs.length c ty v xs hown, by simpa using hown, ⟨rfl, rfl, rfl, Nat.le_refl _, fun _ _ _ => rfl⟩⟩
    · exact go ad (fun j u hu => by simp at hu)
  · obtain ⟨g, o, rfl, _, _⟩ := hat 0 (by simp)
    refine go _ (fun j u hu => ?_)
    obtain ⟨hj, hu⟩ := List.getElem?_eq_some_iff.1 hu
    obtain ⟨g', o', he, _, hc⟩ := hat j hj
    obtain ⟨rfl, rfl⟩ := addr_inj he
    rw [add_addr, hc, hu]

/-- A list put behind one of the call's own. -/
theorem wpAppRow {t e : TypeId} {z : Value} {bytes : Nat} (E : Elem t e z bytes) {ops : Array Oper} {rest : List Oper} {o : Oper} {a : Act} {Q : Exit → Act → World → Prop} {w : World} (hgd : o.guard = none) (s x : Operand)
    (ho : o.op = .call { callee := .builtin .append, args := #[s, x], argTypes := #[t, t] })
    (B : Nat) (v : Value) (xs ys : List Value) (u : Value) (hs : a.eval s = v) (hown : w.ownsRow B e 1 v xs.length xs) (hx : a.eval x = u) (hrow : RowV w u ys)
    (hone : ∀ u ∈ ys, u.oneCell' = true) (hlen : xs.length + ys.length ≤ 1000000) (hB : B ≤ w.heap.size)
    (h : ∀ v' w', w'.ownsRow B e 1 v' (xs ++ ys).length (xs ++ ys) → w.grownBy w' v.ownBlock → wpList Tryz.prog ops Q rest (a.put o.dst v') w') :
    wpList Tryz.prog ops Q (o :: rest) a w := by
  refine wpList_plain hgd fun K hK => ?_
  obtain ⟨A, c, hu, _⟩ := id hrow
  subst hu
  obtain ⟨v', w', hrun, h2, h3⟩ := run_app_row E w B o.type v xs ys A c hown hrow hone hlen hB
  unfold Oper.wp execOp
  simp only [ho, resolve, invoke, builtin, Sem.run_bind, Sem.run_pure, Result.andThen_ok, List.map_toArray, List.map_cons, List.map_nil, hs, hx, hrun]
  exact hK _ _ (h v' w' h2 h3)

/-- One cell put behind a list of the call's own. -/
theorem wpAppOne {t e : TypeId} {z : Value} {bytes : Nat} (E : Elem t e z bytes) {ops : Array Oper} {rest : List Oper} {o : Oper} {a : Act} {Q : Exit → Act → World → Prop} {w : World} {y : Value} (hgd : o.guard = none) (s x : Operand)
    (ho : o.op = .call { callee := .builtin .append, args := #[s, x], argTypes := #[t, t] })
    (B : Nat) (v : Value) (xs : List Value) (hs : a.eval s = v) (hown : w.ownsRow B e 1 v xs.length xs) (N : Nat) (hx : a.eval x = .slice (some ⟨N, 0, none⟩) 1 1) (hN : N = w.heap.size) (hone : y.oneCell' = true)
    (hlen : xs.length ≤ 1000000) (hB : B ≤ w.heap.size)
    (h : ∀ v' w', w'.ownsRow B e 1 v' (xs ++ [y]).length (xs ++ [y]) → w.grownBy w' v.ownBlock → wpList Tryz.prog ops Q rest (a.put o.dst v') w') :
    wpList Tryz.prog ops Q (o :: rest) a (w.alloc (.cells #[y] e)) := by
  subst hN
  obtain ⟨i0, hi, hz0, hz1, hz2⟩ := info_parts E.info
  refine wpList_append_own _ hgd s x t ho B e i0 z 1 bytes E.under hi hz0 hz1 hz2 E.one (by decide) v xs.length xs hs (hown.alloc _) ⟨w.heap.size, 0, none⟩ 1 1 [y] hx rfl (one_new w _ _) ?_ ?_ ?_ ?_ ?_
  · intro u hu; simp at hu; subst hu; exact hone
  · unfold maxLen; omega
  · exact Nat.le_trans (Nat.mul_le_mul (Nat.add_le_add_right hlen 1) E.small) (by decide)
  · simp; omega
  · intro v' w' h1 h2 _
    have hg : w.grownBy w' v.ownBlock := ⟨h2.os, h2.tape, h2.output, Nat.le_trans (by simp) h2.size, fun k hk hne => (h2.block k (by simp; omega) hne).trans (Below.heap_alloc _ _ _ hk)⟩
    exact h v' w' (by simpa using h1) hg

theorem below_own {w w' : World} {B e n : Nat} {v : Value} {xs : List Value} (hown : w.ownsRow B e 1 v n xs) (hg : w.grownBy w' v.ownBlock) (hB : B ≤ w.heap.size) : Below B w w' :=
  (Below.refl B w).grown hg hB (fun k hk => (hown.lt k hk).1)

theorem below_drewN {B : Nat} {a w : World} (h : Below B a w) (n : Nat) : Below B a (w.drewN n) := ⟨h.os, h.tape, h.output, h.size, h.block⟩

theorem own_base {w : World} {B B' e n : Nat} {v : Value} {xs : List Value} (h : w.ownsRow B e 1 v n xs) (hB : B' ≤ B) : w.ownsRow B' e 1 v n xs := by
  refine ⟨h.1, ?_⟩
  rcases h.2 with h0 | ⟨g, cap, cur, hv, hg, r⟩
  · exact .inl h0
  · exact .inr ⟨g, cap, cur, hv, by omega, r⟩

theorem own_below {w w' : World} {B e n : Nat} {v : Value} {xs : List Value} (h : w.ownsRow B e 1 v n xs) (hb : Below w.heap.size w w') : w'.ownsRow B e 1 v n xs := by
  refine ⟨h.1, ?_⟩
  rcases h.2 with h0 | ⟨g, cap, cur, hv, hg, hh, r⟩
  · exact .inl h0
  · exact .inr ⟨g, cap, cur, hv, hg, (hb.block g (lt_of_block hh)).trans hh, r⟩

/-- Numbers as cells. -/
def I (l : List Int) : List Value := l.map fun x => .int .i64 x
theorem I_len (l : List Int) : (I l).length = l.length := by simp [I]
theorem I_append (a b : List Int) : I (a ++ b) = I a ++ I b := by simp [I]
theorem I_one (l : List Int) : ∀ u ∈ I l, u.oneCell' = true := by
  intro u hu
  simp only [I, List.mem_map] at hu
  obtain ⟨x, _, rfl⟩ := hu
  rfl
theorem I_take (l : List Int) (k : Nat) : (I l).take k = I (l.take k) := by simp [I, List.map_take]
theorem I_drop (l : List Int) (k : Nat) : (I l).drop k = I (l.drop k) := by simp [I, List.map_drop]

theorem RowV.ints {w : World} {v : Value} {l : List Int} (h : RowV w v (I l)) :
    ∃ a c, v = .slice a l.length c ∧ l.length ≤ c ∧ c ≤ maxLen ∧ ∀ k (hk : k < l.length), ∃ g o, a = some ⟨g, o, none⟩ ∧ g < w.heap.size ∧ w.cell? ⟨g, o + k, none⟩ = some (.int .i64 l[k]) := by
  obtain ⟨a, c, hv, h1, h2, hat⟩ := h
  refine ⟨a, c, by rw [hv, I_len], by rw [I_len] at h1; exact h1, h2, fun k hk => ?_⟩
  obtain ⟨g, o, ha, hg, hc⟩ := hat k (by rw [I_len]; exact hk)
  exact ⟨g, o, ha, hg, by rw [hc]; simp [I]⟩

/-- Texts as cells. -/
def S (l : List (List UInt8)) : List Value := l.map fun x => .string ⟨x.toArray⟩
theorem S_len (l : List (List UInt8)) : (S l).length = l.length := by simp [S]
theorem S_append (a b : List (List UInt8)) : S (a ++ b) = S a ++ S b := by simp [S]
theorem S_one (l : List (List UInt8)) : ∀ u ∈ S l, u.oneCell' = true := by
  intro u hu
  simp only [S, List.mem_map] at hu
  obtain ⟨x, _, rfl⟩ := hu
  rfl

theorem RowV.texts {w : World} {v : Value} {l : List (List UInt8)} (h : RowV w v (S l)) :
    ∃ a c, v = .slice a l.length c ∧ l.length ≤ c ∧ c ≤ maxLen ∧ ∀ k (hk : k < l.length), ∃ g o, a = some ⟨g, o, none⟩ ∧ g < w.heap.size ∧ w.cell? ⟨g, o + k, none⟩ = some (.string ⟨(l[k]).toArray⟩) := by
  obtain ⟨a, c, hv, h1, h2, hat⟩ := h
  refine ⟨a, c, by rw [hv, S_len], by rw [S_len] at h1; exact h1, h2, fun k hk => ?_⟩
  obtain ⟨g, o, ha, hg, hc⟩ := hat k (by rw [S_len]; exact hk)
  exact ⟨g, o, ha, hg, by rw [hc]; simp [S]⟩

theorem text_snoc {w : World} {B e : Nat} {v : Value} {l : List (List UInt8)} {x : List UInt8} (h : w.ownsRow B e 1 v (S l ++ [Value.string ⟨x.toArray⟩]).length (S l ++ [Value.string ⟨x.toArray⟩])) : w.ownsRow B e 1 v (l ++ [x]).length (S (l ++ [x])) := by
  rw [S_append, ← S_len (l ++ [x]), S_append]; exact h

theorem elemS : Elem 23 9 (.string ByteArray.empty) 16 := ⟨Tryz.underlying23, by kernel_rfl, rfl, by decide⟩

theorem extract_mid (s : ByteArray) (f k : Nat) : s.extract f k = ⟨(mid s.data.toList f k).toArray⟩ := by
  apply ByteArray.ext
  apply Array.ext'
  simp [mid, ByteArray.data_extract, List.extract_eq_take_drop, List.drop_take]
theorem run_one_byte (c : UInt8) (w : World) : (convert 77 9 (.slice (some ⟨w.heap.size, 0, none⟩) 1 1)).run Tryz.prog (w.alloc (.cells #[.int .u8 (c.toNat : Int)] 5)) = .ok (.string ⟨#[c]⟩) (w.alloc (.cells #[.int .u8 (c.toNat : Int)] 5)) :=
  run_convert_bytes_back _ 77 9 5 ⟨w.heap.size, 0, none⟩ 1 [c] Tryz.underlying77 Tryz.underlying5 Tryz.underlying9 (fun j hj => by
    have hj0 : j = 0 := by simp at hj; omega
    subst hj0
    exact one_new w _ _ 0 _ rfl)

end Go.Proofs.YtgcaplbeahjbmaaGreatDoor

/- Plain mathematics of stores: texts in order, files, what is taken; no program. -/
namespace Go.Proofs.YtgcaplbeahjbmaaGreatDoor
namespace Pth

/-- One text is less than another. -/
def ltT (a b : List UInt8) : Bool := Op.bytesLess a b
theorem ltT_nil (b : List UInt8) : ltT b [] = false := by cases b <;> rfl
theorem ltT_nil_cons (c : UInt8) (t : List UInt8) : ltT [] (c :: t) = true := rfl
theorem ltT_cons (c d : UInt8) (a b : List UInt8) : ltT (c :: a) (d :: b) = (decide (c < d) || (c == d && ltT a b)) := by
  unfold ltT
  rw [Op.bytesLess]
theorem ltT_irrefl (a : List UInt8) : ltT a a = false := by
  induction a with
  | nil => rfl
  | cons c t ih => rw [ltT_cons, ih]; simp
theorem ltT_trans {a b c : List UInt8} (h1 : ltT a b = true) (h2 : ltT b c = true) : ltT a c = true := by
  induction a generalizing b c with
  | nil =>
    cases b with
    | nil => rw [ltT_nil] at h1; cases h1
    | cons x t =>
      cases c with
      | nil => rw [ltT_nil] at h2; cases h2
      | cons y u => rfl
  | cons x t ih =>
    cases b with
    | nil => rw [ltT_nil] at h1; cases h1
    | cons y u =>
      cases c with
      | nil => rw [ltT_nil] at h2; cases h2
      | cons z v =>
        rw [ltT_cons] at h1 h2 ⊢
        simp only [Bool.or_eq_true, decide_eq_true_iff, Bool.and_eq_true, beq_iff_eq] at h1 h2 ⊢
        rcases h1 with h1 | ⟨rfl, h1⟩
        · rcases h2 with h2 | ⟨rfl, h2⟩
          · exact .inl (UInt8.lt_trans h1 h2)
          · exact .inl h1
        · rcases h2 with h2 | ⟨rfl, h2⟩
          · exact .inl h2
          · exact .inr ⟨rfl, ih h1 h2⟩
theorem ltT_total (a b : List UInt8) : ltT a b = true ∨ a = b ∨ ltT b a = true := by
  induction a generalizing b with
  | nil =>
    cases b with
    | nil => exact .inr (.inl rfl)
    | cons y u => exact .inl rfl
  | cons x t ih =>
    cases b with
    | nil => exact .inr (.inr rfl)
    | cons y u =>
      rw [ltT_cons, ltT_cons]
      simp only [Bool.or_eq_true, decide_eq_true_iff, Bool.and_eq_true, beq_iff_eq]
      rcases Nat.lt_trichotomy x.toNat y.toNat with h | h | h
      · exact .inl (.inl (UInt8.lt_iff_toNat_lt.2 h))
      · obtain rfl : x = y := UInt8.toNat_inj.1 h
        rcases ih u with h1 | rfl | h1
        · exact .inl (.inr ⟨rfl, h1⟩)
        · exact .inr (.inl rfl)
        · exact .inr (.inr (.inr ⟨rfl, h1⟩))
      · exact .inr (.inr (.inl (UInt8.lt_iff_toNat_lt.2 h)))

/-- A file: its name and its body. -/
abbrev FileT := List UInt8 × List UInt8
def nameOk (n : List UInt8) : Bool := pathL n && (decide (n.length ≤ 20) && (cleanL n == n))
def fileOk (f : FileT) : Bool := nameOk f.1 && decide (f.2.length ≤ 40)
def riseN (l : List (List UInt8)) : Bool := decide (l.Pairwise (fun a b => ltT a b = true))
def goodF (l : List FileT) : Bool := l.all fileOk && (riseN (l.map (·.1)) && decide (l.length ≤ 12))

def findF : List FileT → List UInt8 → Int
  | [], _ => -1
  | f :: t, n => if f.1 = n then 0 else if findF t n = -1 then -1 else findF t n + 1
def putF : List FileT → FileT → List FileT
  | [], f => [f]
  | x :: t, f => if ltT x.1 f.1 = true then x :: putF t f else if x.1 = f.1 then f :: t else f :: x :: t
def dropF (l : List FileT) (n : List UInt8) : List FileT := l.filter (fun f => !(f.1 == n))
def putN : List (List UInt8) → List UInt8 → List (List UInt8)
  | [], n => [n]
  | x :: t, n => if ltT x n = true then x :: putN t n else if x = n then x :: t else n :: x :: t
def dropN (l : List (List UInt8)) (n : List UInt8) : List (List UInt8) := l.filter (fun x => !(x == n))

structure StoreT where
  files : List FileT
  staged : List FileT
  gone : List (List UInt8)
def noStore : StoreT := ⟨[], [], []⟩
def takenF (s : StoreT) : List FileT := s.gone.foldl dropF (s.staged.foldl putF s.files)
def goneOk (s : StoreT) : Bool := s.gone.all (fun n => nameOk n && decide (findF s.staged n = -1)) && riseN s.gone
def goodS (s : StoreT) : Bool := goodF s.files && (goodF s.staged && (decide (s.gone.length ≤ 12) && (goneOk s && goodF (takenF s))))

/-- What is told: the store where it is good. -/
def tellT (s : StoreT) : StoreT := if goodS s = true then s else noStore
def stageFT (s : StoreT) (n b : List UInt8) : StoreT := ⟨s.files, putF s.staged (n, b), dropN s.gone n⟩
def stageGT (s : StoreT) (n : List UInt8) : StoreT := ⟨s.files, dropF s.staged n, putN s.gone n⟩

/-! Rising. -/
theorem riseN_iff {l : List (List UInt8)} : riseN l = true ↔ l.Pairwise (fun a b => ltT a b = true) := by simp [riseN]
theorem riseN_next {l : List (List UInt8)} {k : Nat} (hk : k < l.length) (h : riseN (l.take k) = true) (h3 : ∀ h0 : 0 < k, ltT l[k - 1] l[k] = true) : riseN (l.take (k + 1)) = true := by
  rw [riseN_iff] at h ⊢
  rw [List.take_succ_eq_append_getElem hk, List.pairwise_append]
  refine ⟨h, by simp, fun x hx y hy => ?_⟩
  rw [List.mem_singleton] at hy
  subst hy
  obtain ⟨j, hj, rfl⟩ := List.mem_iff_getElem.1 hx
  rw [List.length_take] at hj
  have h0 : 0 < k := by omega
  have h4 := h3 h0
  rw [List.getElem_take]
  rcases Nat.lt_or_ge j (k - 1) with hj1 | hj1
  · have h5 := List.pairwise_iff_getElem.1 h j (k - 1) (by rw [List.length_take]; omega) (by rw [List.length_take]; omega) hj1
    rw [List.getElem_take, List.getElem_take] at h5
    exact ltT_trans h5 h4
  · have : j = k - 1 := by omega
    subst this
    exact h4
theorem riseN_fall {l : List (List UInt8)} {k : Nat} (hk : k < l.length) (h0 : 0 < k) (h : ltT l[k - 1] l[k] = false) : riseN l = false := by
  rw [← Bool.not_eq_true, riseN_iff]
  intro hh
  have := List.pairwise_iff_getElem.1 hh (k - 1) k (by omega) hk (by omega)
  rw [this] at h
  cases h

/-! Finding. -/
theorem find_range (l : List FileT) (n : List UInt8) : -1 ≤ findF l n ∧ findF l n < l.length := by
  induction l with
  | nil => simp [findF]
  | cons f t ih =>
    unfold findF
    split
    · simp
    · split
      · simp; omega
      · simp only [List.length_cons]; omega
theorem find_none {l : List FileT} {n : List UInt8} (h : ∀ f ∈ l, f.1 ≠ n) : findF l n = -1 := by
  induction l with
  | nil => rfl
  | cons f t ih =>
    rw [findF, if_neg (h f (by simp)), ih (fun g hg => h g (by simp [hg])), if_pos rfl]
theorem find_hit {l : List FileT} {n : List UInt8} {k : Nat} (hk : k < l.length) (h0 : ∀ j (hj : j < k), (l[j]'(by omega)).1 ≠ n) (h1 : l[k].1 = n) : findF l n = k := by
  induction l generalizing k with
  | nil => simp at hk
  | cons f t ih =>
    cases k with
    | zero => rw [findF, if_pos (by simpa using h1)]; rfl
    | succ k =>
      have h2 : f.1 ≠ n := by simpa using h0 0 (by omega)
      have h3 := ih (k := k) (by simpa using hk) (fun j hj => by simpa using h0 (j + 1) (by omega)) (by simpa using h1)
      rw [findF, if_neg h2, h3, if_neg (by omega)]
      omega
theorem find_miss {l : List FileT} {n : List UInt8} (h : findF l n = -1) : ∀ f ∈ l, f.1 ≠ n := by
  induction l with
  | nil => simp
  | cons f t ih =>
    unfold findF at h
    split at h
    · cases h
    · rename_i h1
      split at h
      · rename_i h2
        intro g hg
        rcases List.mem_cons.1 hg with rfl | hg
        · exact h1
        · exact ih h2 g hg
      · have := (find_range t n).1
        omega

/-! Putting: by places. -/
theorem putF_start (l : List FileT) (f : FileT) : putF l f = l.take 0 ++ putF (l.drop 0) f := by simp
theorem putF_less {l : List FileT} {f : FileT} {k : Nat} (hk : k < l.length) (h : putF l f = l.take k ++ putF (l.drop k) f) (hx : ltT l[k].1 f.1 = true) : putF l f = l.take (k + 1) ++ putF (l.drop (k + 1)) f := by
  rw [h, List.drop_eq_getElem_cons hk, putF, if_pos hx, List.take_succ_eq_append_getElem hk, List.append_assoc, List.singleton_append]
theorem putF_there {l : List FileT} {f : FileT} {k : Nat} (hk : k < l.length) (h : putF l f = l.take k ++ putF (l.drop k) f) (hx : l[k].1 = f.1) : putF l f = (l.take k ++ [f]) ++ l.drop (k + 1) := by
  rw [h, List.drop_eq_getElem_cons hk, putF, if_neg (by rw [hx, ltT_irrefl]; simp), if_pos hx]; simp
theorem putF_new {l : List FileT} {f : FileT} {k : Nat} (h : putF l f = l.take k ++ putF (l.drop k) f) (hx : ∀ hk : k < l.length, ltT l[k].1 f.1 = false ∧ ¬ l[k].1 = f.1) : putF l f = (l.take k ++ [f]) ++ l.drop k := by
  rw [h]
  by_cases hk : k < l.length
  · have := hx hk
    rw [List.drop_eq_getElem_cons hk, putF, if_neg (by rw [this.1]; simp), if_neg this.2]; simp
  · rw [List.drop_of_length_le (by omega)]; simp [putF]
theorem putF_len (l : List FileT) (f : FileT) : (putF l f).length ≤ l.length + 1 := by
  induction l with
  | nil => simp [putF]
  | cons x t ih =>
    unfold putF
    split
    · simp only [List.length_cons]; omega
    · split <;> simp
theorem putN_start (l : List (List UInt8)) (n : List UInt8) : putN l n = l.take 0 ++ putN (l.drop 0) n := by simp
theorem putN_less {l : List (List UInt8)} {n : List UInt8} {k : Nat} (hk : k < l.length) (h : putN l n = l.take k ++ putN (l.drop k) n) (hx : ltT l[k] n = true) : putN l n = l.take (k + 1) ++ putN (l.drop (k + 1)) n := by
  rw [h, List.drop_eq_getElem_cons hk, putN, if_pos hx, List.take_succ_eq_append_getElem hk, List.append_assoc, List.singleton_append]
theorem putN_there {l : List (List UInt8)} {n : List UInt8} {k : Nat} (hk : k < l.length) (h : putN l n = l.take k ++ putN (l.drop k) n) (hx : l[k] = n) : putN l n = l := by
  rw [h, List.drop_eq_getElem_cons hk, putN, if_neg (by rw [hx, ltT_irrefl]; simp), if_pos hx, ← List.drop_eq_getElem_cons hk]; simp
theorem putN_new {l : List (List UInt8)} {n : List UInt8} {k : Nat} (h : putN l n = l.take k ++ putN (l.drop k) n) (hx : ∀ hk : k < l.length, ltT l[k] n = false ∧ ¬ l[k] = n) : putN l n = (l.take k ++ [n]) ++ l.drop k := by
  rw [h]
  by_cases hk : k < l.length
  · have := hx hk
    rw [List.drop_eq_getElem_cons hk, putN, if_neg (by rw [this.1]; simp), if_neg this.2]; simp
  · rw [List.drop_of_length_le (by omega)]; simp [putN]
theorem putN_len (l : List (List UInt8)) (n : List UInt8) : (putN l n).length ≤ l.length + 1 := by
  induction l with
  | nil => simp [putN]
  | cons x t ih =>
    unfold putN
    split
    · simp only [List.length_cons]; omega
    · split <;> simp
theorem dropF_len (l : List FileT) (n : List UInt8) : (dropF l n).length ≤ l.length := List.length_filter_le _ _
theorem dropN_len (l : List (List UInt8)) (n : List UInt8) : (dropN l n).length ≤ l.length := List.length_filter_le _ _

end Pth
end Go.Proofs.YtgcaplbeahjbmaaGreatDoor

/- Lists of records: elements of several cells each, read wherever they lie, put behind one of the call's own; files. -/
namespace Go.Proofs.YtgcaplbeahjbmaaGreatDoor
open Go.RowKit Pth

/-- A slice of n elements of z cells each. -/
def RowG (z : Nat) (w : World) (v : Value) (n : Nat) (xs : List Value) : Prop :=
  ∃ a c, v = .slice a n c ∧ xs.length = n * z ∧ n ≤ c ∧ c ≤ maxLen ∧ ∀ k (hk : k < xs.length), ∃ g o, a = some ⟨g, o, none⟩ ∧ g < w.heap.size ∧ w.cell? ⟨g, o + k, none⟩ = some xs[k]

theorem RowG.of_own {w : World} {B e n z : Nat} {v : Value} {xs : List Value} (h : w.ownsRow B e z v n xs) : RowG z w v n xs := by
  have hn := h.1
  rcases h.2 with ⟨hv, h0⟩ | ⟨g, cap, cur, hv, hB, hh, hnc, hcm, hsz, htake⟩
  · refine ⟨none, 0, by rw [hv, h0], hn, by omega, by unfold maxLen; omega, fun k hk => ?_⟩
    rw [hn, h0] at hk
    omega
  · refine ⟨some ⟨g, 0, none⟩, cap, hv, hn, hnc, hcm, fun k hk => ⟨g, 0, rfl, lt_of_block hh, ?_⟩⟩
    have := h.cells (g := g) (by rw [hv]; rfl) k xs[k] (by simp [hk])
    rw [add_addr] at this
    exact this
theorem RowG.alloc {z : Nat} {w : World} {v : Value} {n : Nat} {xs : List Value} (h : RowG z w v n xs) (o : Obj) : RowG z (w.alloc o) v n xs := by
  obtain ⟨a, c, hv, h0, h1, h2, hat⟩ := h
  refine ⟨a, c, hv, h0, h1, h2, fun k hk => ?_⟩
  obtain ⟨g, o', ha, hg, hc⟩ := hat k hk
  exact ⟨g, o', ha, by simp; omega, by rw [World.cell?_alloc_lt _ _ _ hg]; exact hc⟩
theorem RowG.below {z : Nat} {w w' : World} {v : Value} {n : Nat} {xs : List Value} (h : RowG z w v n xs) (hb : Below w.heap.size w w') : RowG z w' v n xs := by
  obtain ⟨a, c, hv, h0, h1, h2, hat⟩ := h
  refine ⟨a, c, hv, h0, h1, h2, fun k hk => ?_⟩
  obtain ⟨g, o', ha, hg, hc⟩ := hat k hk
  exact ⟨g, o', ha, by have := hb.size; omega, by rw [hb.cell (p := ⟨g, o' + k, none⟩) hg]; exact hc⟩
/-- The front of it. -/
theorem RowG.front {z : Nat} {w : World} {a : Option Addr} {c n : Nat} {xs : List Value} (h : RowG z w (.slice a n c) n xs) (k : Nat) (hk : k ≤ n) : RowG z w (.slice a k c) k (xs.take (k * z)) := by
  obtain ⟨a', c', hv, h0, h1, h2, hat⟩ := h
  injection hv with e1 e2 e3
  subst e1 e3
  have hle : k * z ≤ n * z := Nat.mul_le_mul_right _ hk
  have hl : (xs.take (k * z)).length = k * z := by rw [List.length_take]; omega
  refine ⟨a, c, rfl, hl, by omega, h2, fun j hj => ?_⟩
  obtain ⟨g, o, ha, hg, hc⟩ := hat j (by omega)
  exact ⟨g, o, ha, hg, by rw [List.getElem_take]; exact hc⟩
/-- What is behind k of it. -/
theorem RowG.back {z : Nat} {w : World} {a : Option Addr} {c n : Nat} {xs : List Value} (h : RowG z w (.slice a n c) n xs) (k : Nat) (hk : k ≤ n) (_hz : 0 < z) :
    RowG z w (.slice (if c = k then a else a.map (·.add (k * z))) (n - k) (c - k)) (n - k) (xs.drop (k * z)) := by
  obtain ⟨a', c', hv, h0, h1, h2, hat⟩ := h
  injection hv with e1 e2 e3
  subst e1 e3
  refine ⟨_, _, rfl, by rw [List.length_drop, h0, Nat.sub_mul], by omega, by omega, fun j hj => ?_⟩
  rw [List.length_drop] at hj
  obtain ⟨g, o, ha, hg, hcell⟩ := hat (k * z + j) (by omega)
  have hne : ¬ c = k := by
    intro e
    subst e
    have : n * z = c * z := by rw [Nat.le_antisymm h1 hk]
    omega
  refine ⟨g, o + k * z, ?_, hg, ?_⟩
  · rw [if_neg hne, ha, Option.map_some, add_addr]
  · rw [List.getElem_drop, Nat.add_assoc]; exact hcell

/-- The element type of a slice type, its zero, its cells and its size. -/
structure ElemG (t e : TypeId) (z : Value) (size bytes : Nat) : Prop where
  under : Tryz.prog.underlying t = some (.slice e)
  info : (Tryz.prog.info? e).map (fun i => (i.zero, i.size, i.bytes)) = some (some z, size, bytes)
  cells : z.cells.size = size
  pos : 0 < size
  small : bytes ≤ 1000

theorem run_app_noneG {t e : TypeId} {z : Value} {size bytes : Nat} (E : ElemG t e z size bytes) (w : World) (B n c : Nat) (ty : TypeId) (v : Value) (xs : List Value) (hown : w.ownsRow B e size v n xs) :
    (Builtin.append_ #[t, t] ty #[v, .slice none 0 c]).run Tryz.prog w = .ok v w := by
  obtain ⟨i0, hi, hz0, hz1, hz2⟩ := info_parts E.info
  rcases hown.2 with ⟨rfl, rfl⟩ | ⟨g, cap, cur, rfl, _, _, hnc, _⟩
  · simp [Builtin.append_, run_underlying E.under, sizeOf, typeInfo, hi, Builtin.lenOf, Builtin.firstCells]
  · simp [Builtin.append_, run_underlying E.under, sizeOf, typeInfo, hi, Builtin.lenOf, Builtin.firstCells, hnc, storeCells]

theorem run_app_rowG {t e : TypeId} {z : Value} {size bytes : Nat} (E : ElemG t e z size bytes) (w : World) (B : Nat) (ty : TypeId) (v : Value) (n m : Nat) (xs ys : List Value) (A : Option Addr) (c : Nat) (hown : w.ownsRow B e size v n xs) (hrow : RowG size w (.slice A m c) m ys)
    (hone : ∀ u ∈ ys, u.oneCell' = true) (hlen : n + m ≤ 1000000) (hB : B ≤ w.heap.size) :
    ∃ v' w', (Builtin.append_ #[t, t] ty #[v, .slice A m c]).run Tryz.prog w = .ok v' w' ∧ w'.ownsRow B e size v' (n + m) (xs ++ ys) ∧ w.grownBy w' v.ownBlock := by
  obtain ⟨i0, hi, hz0, hz1, hz2⟩ := info_parts E.info
  obtain ⟨A', c', hv, h0, h1, h2, hat⟩ := hrow
  injection hv with hA _ _
  subst hA
  have go : ∀ ad : Addr, (∀ j u, ys[j]? = some u → w.cell? (ad.add j) = some u) → ∃ v' w', (Builtin.append_ #[t, t] ty #[v, .slice (some ad) m c]).run Tryz.prog w = .ok v' w' ∧ w'.ownsRow B e size v' (n + m) (xs ++ ys) ∧ w.grownBy w' v.ownBlock := by
    intro ad hc
    obtain ⟨v', w', h1, h2, h3, _⟩ := run_append_own (P := Tryz.prog) w B t ty e i0 z size bytes E.under hi hz0 hz1 hz2 E.cells E.pos v n xs hown ad m c ys h0 hc hone (by unfold maxLen; omega)
      (Nat.le_trans (Nat.mul_le_mul hlen E.small) (by decide)) hB
    exact ⟨v', w', h1, h2, h3⟩
  rcases m with _ | m
  · have hys : ys = [] := List.eq_nil_of_length_eq_zero (by rw [h0]; omega)
    subst hys
    rcases A with _ | ad
    · exact ⟨v, w, run_app_noneG E w B n c ty v xs hown, by simpa using hown, ⟨rfl, rfl, rfl, Nat.le_refl _, fun _ _ _ => rfl⟩⟩
    · exact go ad (fun j u hu => by simp at hu)
  · have hpos : 0 < ys.length := by
      have := E.pos
      rw [h0, Nat.add_mul]
      omega
    obtain ⟨g, o, rfl, _, _⟩ := hat 0 hpos
    refine go _ (fun j u hu => ?_)
    obtain ⟨hj, hu⟩ := List.getElem?_eq_some_iff.1 hu
    obtain ⟨g', o', he, _, hc⟩ := hat j hj
    obtain ⟨rfl, rfl⟩ := addr_inj he
    rw [add_addr, hc, hu]

/-- A list put behind one of the call's own. -/
theorem wpAppRowG {t e : TypeId} {z : Value} {size bytes : Nat} (E : ElemG t e z size bytes) {ops : Array Oper} {rest : List Oper} {o : Oper} {a : Act} {Q : Exit → Act → World → Prop} {w : World} (hgd : o.guard = none) (s x : Operand)
    (ho : o.op = .call { callee := .builtin .append, args := #[s, x], argTypes := #[t, t] })
    (B : Nat) (v : Value) (n m : Nat) (xs ys : List Value) (u : Value) (hs : a.eval s = v) (hown : w.ownsRow B e size v n xs) (hx : a.eval x = u) (hrow : RowG size w u m ys)
    (hone : ∀ u ∈ ys, u.oneCell' = true) (hlen : n + m ≤ 1000000) (hB : B ≤ w.heap.size)
    (h : ∀ v' w', w'.ownsRow B e size v' (n + m) (xs ++ ys) → w.grownBy w' v.ownBlock → wpList Tryz.prog ops Q rest (a.put o.dst v') w') :
    wpList Tryz.prog ops Q (o :: rest) a w := by
  refine wpList_plain hgd fun K hK => ?_
  obtain ⟨A, c, hu, _⟩ := id hrow
  subst hu
  obtain ⟨v', w', hrun, h2, h3⟩ := run_app_rowG E w B o.type v n m xs ys A c hown hrow hone hlen hB
  unfold Oper.wp execOp
  simp only [ho, resolve, invoke, builtin, Sem.run_bind, Sem.run_pure, Result.andThen_ok, List.map_toArray, List.map_cons, List.map_nil, hs, hx, hrun]
  exact hK _ _ (h v' w' h2 h3)

theorem cells_new (w : World) (ys : List Value) (t : TypeId) : ∀ j u, ys[j]? = some u → (w.alloc (.cells ys.toArray t)).cell? ((⟨w.heap.size, 0, none⟩ : Addr).add j) = some u := by
  intro j u hj
  rw [add_addr]
  simpa using hj

/-- One element put behind a list of the call's own. -/
theorem wpAppOneG {t e : TypeId} {z : Value} {size bytes : Nat} (E : ElemG t e z size bytes) {ops : Array Oper} {rest : List Oper} {o : Oper} {a : Act} {Q : Exit → Act → World → Prop} {w : World} {y : Array Value} (hgd : o.guard = none) (s x : Operand)
    (ho : o.op = .call { callee := .builtin .append, args := #[s, x], argTypes := #[t, t] })
    (B : Nat) (v : Value) (n : Nat) (xs : List Value) (hs : a.eval s = v) (hown : w.ownsRow B e size v n xs) (N : Nat) (hx : a.eval x = .slice (some ⟨N, 0, none⟩) 1 1) (hN : N = w.heap.size) (hy : y.toList.length = size) (hone : ∀ u ∈ y.toList, u.oneCell' = true)
    (hlen : n ≤ 1000000) (hB : B ≤ w.heap.size)
    (h : ∀ v' w', w'.ownsRow B e size v' (n + 1) (xs ++ y.toList) → w.grownBy w' v.ownBlock → wpList Tryz.prog ops Q rest (a.put o.dst v') w') :
    wpList Tryz.prog ops Q (o :: rest) a (w.alloc (.cells y e)) := by
  subst hN
  obtain ⟨i0, hi, hz0, hz1, hz2⟩ := info_parts E.info
  have hy2 : y = y.toList.toArray := by simp
  refine wpList_append_own _ hgd s x t ho B e i0 z size bytes E.under hi hz0 hz1 hz2 E.cells E.pos v n xs hs (hown.alloc _) ⟨w.heap.size, 0, none⟩ 1 1 y.toList hx (by rw [hy]; omega) (by rw [hy2]; simpa using cells_new w y.toList e) hone ?_ ?_ ?_ ?_
  · unfold maxLen; omega
  · exact Nat.le_trans (Nat.mul_le_mul (Nat.add_le_add_right hlen 1) E.small) (by decide)
  · simp; omega
  · intro v' w' h1 h2 _
    have hg : w.grownBy w' v.ownBlock := ⟨h2.os, h2.tape, h2.output, Nat.le_trans (by simp) h2.size, fun k hk hne => (h2.block k (by simp; omega) hne).trans (Below.heap_alloc _ _ _ hk)⟩
    exact h v' w' h1 hg

theorem own_baseG {w : World} {B B' e n z : Nat} {v : Value} {xs : List Value} (h : w.ownsRow B e z v n xs) (hB : B' ≤ B) : w.ownsRow B' e z v n xs := by
  refine ⟨h.1, ?_⟩
  rcases h.2 with h0 | ⟨g, cap, cur, hv, hg, r⟩
  · exact .inl h0
  · exact .inr ⟨g, cap, cur, hv, by omega, r⟩
theorem own_belowG {w w' : World} {B e n z : Nat} {v : Value} {xs : List Value} (h : w.ownsRow B e z v n xs) (hb : Below w.heap.size w w') : w'.ownsRow B e z v n xs := by
  refine ⟨h.1, ?_⟩
  rcases h.2 with h0 | ⟨g, cap, cur, hv, hg, hh, r⟩
  · exact .inl h0
  · exact .inr ⟨g, cap, cur, hv, hg, (hb.block g (lt_of_block hh)).trans hh, r⟩
theorem below_ownG {w w' : World} {B e n z : Nat} {v : Value} {xs : List Value} (hown : w.ownsRow B e z v n xs) (hg : w.grownBy w' v.ownBlock) (hB : B ≤ w.heap.size) : Below B w w' :=
  (Below.refl B w).grown hg hB (fun k hk => (hown.lt k hk).1)
theorem own_sliceG {w : World} {B e n z : Nat} {v : Value} {xs : List Value} (h : w.ownsRow B e z v n xs) : ∃ a c, v = .slice a n c := by
  rcases h.2 with ⟨hv, h0⟩ | ⟨g, cap, cur, hv, _⟩
  · exact ⟨none, 0, by rw [hv, h0]⟩
  · exact ⟨_, _, hv⟩

/-- Files as cells. -/
def fileC (f : FileT) : List Value := [.string ⟨f.1.toArray⟩, .string ⟨f.2.toArray⟩]
def FC (l : List FileT) : List Value := l.flatMap fileC
theorem FC_len (l : List FileT) : (FC l).length = l.length * 2 := by
  induction l with
  | nil => rfl
  | cons f t ih => simp only [FC, List.flatMap_cons, List.length_append, List.length_cons] at ih ⊢; simp only [fileC, List.length_cons, List.length_nil]; omega
theorem FC_append (a b : List FileT) : FC (a ++ b) = FC a ++ FC b := by simp [FC]
theorem FC_one (l : List FileT) : ∀ u ∈ FC l, u.oneCell' = true := by
  intro u hu
  simp only [FC, List.mem_flatMap, fileC, List.mem_cons, List.not_mem_nil, or_false] at hu
  obtain ⟨f, _, h | h⟩ := hu <;> (rw [h]; rfl)
theorem FC_take (l : List FileT) (k : Nat) : (FC l).take (k * 2) = FC (l.take k) := by
  by_cases hk : k ≤ l.length
  · have e : FC l = FC (l.take k) ++ FC (l.drop k) := by rw [← FC_append, List.take_append_drop]
    have hl : (FC (l.take k)).length = k * 2 := by rw [FC_len, List.length_take]; omega
    rw [e, ← hl, List.take_left]
  · rw [List.take_of_length_le (by rw [FC_len]; omega), List.take_of_length_le (by omega)]
theorem FC_drop (l : List FileT) (k : Nat) : (FC l).drop (k * 2) = FC (l.drop k) := by
  by_cases hk : k ≤ l.length
  · have e : FC l = FC (l.take k) ++ FC (l.drop k) := by rw [← FC_append, List.take_append_drop]
    have hl : (FC (l.take k)).length = k * 2 := by rw [FC_len, List.length_take]; omega
    rw [e, ← hl, List.drop_left]
  · rw [List.drop_of_length_le (by rw [FC_len]; omega), List.drop_of_length_le (by omega)]; rfl
theorem FC_name {l : List FileT} {k : Nat} (hk : k < l.length) : (FC l)[k * 2]'(by rw [FC_len]; omega) = .string ⟨(l[k]).1.toArray⟩ := by
  have h1 : (FC l).drop (k * 2) = FC (l.drop k) := FC_drop l k
  rw [List.drop_eq_getElem_cons hk] at h1
  have h2 : ((FC l).drop (k * 2))[0]? = some (.string ⟨(l[k]).1.toArray⟩) := by rw [h1]; rfl
  rw [List.getElem?_drop, Nat.add_zero, List.getElem?_eq_getElem (by rw [FC_len]; omega)] at h2
  exact Option.some.inj h2
theorem FC_body {l : List FileT} {k : Nat} (hk : k < l.length) : (FC l)[k * 2 + 1]'(by rw [FC_len]; omega) = .string ⟨(l[k]).2.toArray⟩ := by
  have h1 : (FC l).drop (k * 2) = FC (l.drop k) := FC_drop l k
  rw [List.drop_eq_getElem_cons hk] at h1
  have h2 : ((FC l).drop (k * 2))[1]? = some (.string ⟨(l[k]).2.toArray⟩) := by rw [h1]; rfl
  rw [List.getElem?_drop, List.getElem?_eq_getElem (by rw [FC_len]; omega)] at h2
  exact Option.some.inj h2

/-- A slice that reads as files. -/
def RowF (w : World) (v : Value) (l : List FileT) : Prop := RowG 2 w v l.length (FC l)
theorem RowF.files {w : World} {v : Value} {l : List FileT} (h : RowF w v l) :
    ∃ a c, v = .slice a l.length c ∧ l.length ≤ c ∧ c ≤ maxLen ∧ ∀ k (hk : k < l.length), ∃ g o, a = some ⟨g, o, none⟩ ∧ g < w.heap.size ∧ w.cell? ⟨g, o + k * 2, none⟩ = some (.string ⟨(l[k]).1.toArray⟩) ∧ w.cell? ⟨g, o + k * 2 + 1, none⟩ = some (.string ⟨(l[k]).2.toArray⟩) := by
  obtain ⟨a, c, hv, h0, h1, h2, hat⟩ := h
  refine ⟨a, c, hv, h1, h2, fun k hk => ?_⟩
  obtain ⟨g, o, ha, hg, hc⟩ := hat (k * 2) (by rw [FC_len]; omega)
  obtain ⟨g', o', ha', _, hc'⟩ := hat (k * 2 + 1) (by rw [FC_len]; omega)
  rw [ha] at ha'
  obtain ⟨rfl, rfl⟩ := addr_inj ha'
  rw [FC_name hk] at hc
  rw [FC_body hk, ← Nat.add_assoc] at hc'
  exact ⟨g, o, ha, hg, hc, hc'⟩

end Go.Proofs.YtgcaplbeahjbmaaGreatDoor
