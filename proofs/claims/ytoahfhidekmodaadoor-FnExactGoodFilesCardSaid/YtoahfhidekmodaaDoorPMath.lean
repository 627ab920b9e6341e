/- Plain mathematics of patterns: places, fits, stems; no program. -/
import Derived.Test.YtoahfhidekmodaaDoorMath
namespace Go.Proofs.YtoahfhidekmodaaDoor
namespace Pth

/-- The byte may stand in a pattern. -/
def patB (c : UInt8) : Bool := pb (c.toNat : Int) || (c == 42) || (c == 63) || (c == 37)
def patOk (p : List UInt8) : Bool := p.all patB
def patL (p : List UInt8) : Bool := patOk p && (decide (1 ≤ p.length) && decide (p.length ≤ 20))

def hasL (l : List Int) (n : Int) : Bool := decide (n ∈ l)

def putL : List Int → Int → List Int
  | [], n => [n]
  | x :: t, n => if x < n then x :: putL t n else if x = n then x :: t else n :: x :: t

def closeFrom : List UInt8 → Nat → List Int → List Int
  | [], _, l => l
  | c :: t, i, l => closeFrom t (i + 1) (if c = 42 ∧ (i : Int) ∈ l then putL l ((i : Int) + 1) else l)
def closeL (p : List UInt8) (l : List Int) : List Int := closeFrom p 0 l

/-- What one place gives. -/
def step1 (p : List UInt8) (b : UInt8) (out : List Int) (k : Int) : List Int :=
  match p[k.toNat]? with
  | none => out
  | some c =>
    if c = 42 then (if b = 47 then out else putL out k)
    else if c = 37 then putL (putL out k) (k + 1)
    else if c = 63 then (if b = 47 then out else putL out (k + 1))
    else if c = b then putL out (k + 1) else out
def outL (p : List UInt8) (l : List Int) (b : UInt8) : List Int := l.foldl (step1 p b) []
def stepL (p : List UInt8) (l : List Int) (b : UInt8) : List Int := closeL p (outL p l b)
def startL (p : List UInt8) : List Int := closeL p [0]
def runL (p : List UInt8) (s : List UInt8) : List Int := s.foldl (stepL p) (startL p)
def fitsL (p s : List UInt8) : Bool := hasL (runL p s) p.length

/-- Rising and between two numbers. -/
def Rise (l : List Int) : Prop := l.Pairwise (· < ·)
def Within (lo hi : Int) (l : List Int) : Prop := ∀ x ∈ l, lo ≤ x ∧ x ≤ hi

theorem mem_put {l : List Int} {n x : Int} : x ∈ putL l n ↔ x = n ∨ x ∈ l := by
  induction l with
  | nil => simp [putL]
  | cons y t ih =>
    unfold putL
    split
    · simp only [List.mem_cons, ih]; constructor <;> rintro (h | h | h) <;> simp [h]
    · split
      · rename_i h; subst h; simp only [List.mem_cons]; constructor
        · exact .inr
        · rintro (h | h) <;> simp [h]
      · simp only [List.mem_cons]

theorem put_rise {l : List Int} {n : Int} (h : Rise l) : Rise (putL l n) := by
  induction l with
  | nil => simp [putL, Rise]
  | cons y t ih =>
    unfold Rise at h ih ⊢
    rw [List.pairwise_cons] at h
    unfold putL
    split
    · rename_i hy
      rw [List.pairwise_cons]
      refine ⟨fun x hx => ?_, ih h.2⟩
      rcases mem_put.1 hx with rfl | hx
      · exact hy
      · exact h.1 x hx
    · rename_i hy
      split
      · rw [List.pairwise_cons]; exact h
      · rw [List.pairwise_cons, List.pairwise_cons]
        refine ⟨fun x hx => ?_, h⟩
        rcases List.mem_cons.1 hx with rfl | hx
        · omega
        · have := h.1 x hx; omega

theorem put_within {lo hi n : Int} {l : List Int} (h : Within lo hi l) (h1 : lo ≤ n) (h2 : n ≤ hi) : Within lo hi (putL l n) := by
  intro x hx
  rcases mem_put.1 hx with rfl | hx
  · exact ⟨h1, h2⟩
  · exact h x hx

theorem rise_len {l : List Int} {lo hi : Int} (h : Rise l) (hw : Within lo hi l) (hl : lo ≤ hi + 1) : (l.length : Int) ≤ hi + 1 - lo := by
  induction l generalizing lo with
  | nil => simp; omega
  | cons y t ih =>
    unfold Rise at h ih
    rw [List.pairwise_cons] at h
    have hy := hw y (by simp)
    have := ih (lo := y + 1) h.2 (fun x hx => ⟨by have := h.1 x hx; omega, (hw x (by simp [hx])).2⟩) (by omega)
    simp only [List.length_cons]
    omega

theorem rise_ext {a b : List Int} (ha : Rise a) (hb : Rise b) (h : ∀ x, x ∈ a ↔ x ∈ b) : a = b := by
  induction a generalizing b with
  | nil =>
    cases b with
    | nil => rfl
    | cons y t => have := (h y).2 (by simp); simp at this
  | cons x r ih =>
    cases b with
    | nil => have := (h x).1 (by simp); simp at this
    | cons y t =>
      unfold Rise at ha hb ih
      rw [List.pairwise_cons] at ha hb
      have e : x = y := by
        have h1 := (h x).1 (by simp)
        have h2 := (h y).2 (by simp)
        rcases List.mem_cons.1 h1 with h1 | h1
        · exact h1
        · rcases List.mem_cons.1 h2 with h2 | h2
          · exact h2.symm
          · have := ha.1 y h2; have := hb.1 x h1; omega
      subst e
      congr 1
      refine ih ha.2 hb.2 (fun z => ?_)
      have hz := h z
      simp only [List.mem_cons] at hz
      constructor
      · intro h1
        rcases hz.1 (.inr h1) with h2 | h2
        · have := ha.1 z h1; omega
        · exact h2
      · intro h1
        rcases hz.2 (.inr h1) with h2 | h2
        · have := hb.1 z h1; omega
        · exact h2

def riseB (lo hi : Int) (l : List Int) : Bool := decide (l.Pairwise (· < ·)) && l.all (fun x => decide (lo ≤ x) && decide (x ≤ hi))
theorem riseB_iff {lo hi : Int} {l : List Int} : riseB lo hi l = true ↔ Rise l ∧ Within lo hi l := by
  simp [riseB, Rise, Within]
theorem riseB_false {lo hi : Int} {l : List Int} (h : ¬ (Rise l ∧ Within lo hi l)) : riseB lo hi l = false := by
  rw [← Bool.not_eq_true, riseB_iff]; exact h
theorem rise_next {lo hi : Int} {l : List Int} {k : Nat} (hk : k < l.length) (h : Rise (l.take k) ∧ Within lo hi (l.take k)) (h1 : lo ≤ l[k]) (h2 : l[k] ≤ hi) (h3 : ∀ h0 : 0 < k, l[k - 1] < l[k]) :
    Rise (l.take (k + 1)) ∧ Within lo hi (l.take (k + 1)) := by
  rw [List.take_succ_eq_append_getElem hk]
  obtain ⟨hr, hw⟩ := h
  constructor
  · unfold Rise at hr ⊢
    rw [List.pairwise_append]
    refine ⟨hr, by simp, fun x hx y hy => ?_⟩
    rw [List.mem_singleton] at hy
    subst hy
    obtain ⟨j, hj, rfl⟩ := List.mem_iff_getElem.1 hx
    rw [List.length_take] at hj
    have h0 : 0 < k := by omega
    have h4 := h3 h0
    rw [List.getElem_take]
    rcases Nat.lt_or_ge j (k - 1) with hj1 | hj1
    · have h5 := List.pairwise_iff_getElem.1 hr j (k - 1) (by rw [List.length_take]; omega) (by rw [List.length_take]; omega) hj1
      rw [List.getElem_take, List.getElem_take] at h5
      omega
    · have : j = k - 1 := by omega
      subst this
      exact h4
  · intro x hx
    rcases List.mem_append.1 hx with hx | hx
    · exact hw x hx
    · rw [List.mem_singleton] at hx; subst hx; exact ⟨h1, h2⟩
theorem rise_out {lo hi : Int} {l : List Int} {k : Nat} (hk : k < l.length) (h : l[k] < lo ∨ hi < l[k]) : riseB lo hi l = false :=
  riseB_false (fun hh => by have := hh.2 l[k] (List.getElem_mem hk); omega)
theorem rise_fall {lo hi : Int} {l : List Int} {k : Nat} (hk : k < l.length) (h0 : 0 < k) (h : l[k] ≤ l[k - 1]) : riseB lo hi l = false :=
  riseB_false (fun hh => by
    have := List.pairwise_iff_getElem.1 hh.1 (k - 1) k (by omega) hk (by omega)
    omega)

/-- What holds for all and is handed on over a star holds for all that are put in. -/
theorem close_ind {P : Int → Prop} (q : List UInt8) (i : Nat) (l : List Int) (hl : ∀ x ∈ l, P x)
    (hs : ∀ j, j < q.length → q[j]? = some 42 → P ((i + j : Nat) : Int) → P (((i + j : Nat) : Int) + 1)) : ∀ x ∈ closeFrom q i l, P x := by
  induction q generalizing i l with
  | nil => exact hl
  | cons c t ih =>
    unfold closeFrom
    refine ih (i + 1) _ ?_ ?_
    · split
      · rename_i hc
        intro x hx
        rcases mem_put.1 hx with rfl | hx
        · have := hs 0 (by simp) (by simp [hc.1]) (by simpa using hl _ hc.2)
          simpa using this
        · exact hl x hx
      · exact hl
    · intro j hj hq hP
      have e : ((i + 1 + j : Nat) : Int) = ((i + (j + 1) : Nat) : Int) := by omega
      rw [e] at hP ⊢
      exact hs (j + 1) (by simp; omega) (by simpa using hq) hP

theorem close_sub (q : List UInt8) (i : Nat) (l : List Int) {x : Int} (hx : x ∈ l) : x ∈ closeFrom q i l := by
  induction q generalizing i l with
  | nil => exact hx
  | cons c t ih =>
    unfold closeFrom
    apply ih
    split
    · exact mem_put.2 (.inr hx)
    · exact hx

theorem close_below (q : List UInt8) (i : Nat) (l : List Int) {x : Int} (hi : x ≤ i) : x ∈ closeFrom q i l ↔ x ∈ l := by
  induction q generalizing i l with
  | nil => exact Iff.rfl
  | cons c t ih =>
    unfold closeFrom
    rw [ih (i + 1) _ (by omega)]
    split
    · rw [mem_put]; constructor
      · rintro (h | h)
        · omega
        · exact h
      · exact .inr
    · exact Iff.rfl

theorem close_star (q : List UInt8) (i j : Nat) (l : List Int) (hj : q[j]? = some 42) (hx : ((i + j : Nat) : Int) ∈ closeFrom q i l) : ((i + j : Nat) : Int) + 1 ∈ closeFrom q i l := by
  induction q generalizing i j l with
  | nil => simp at hj
  | cons c t ih =>
    unfold closeFrom at hx ⊢
    cases j with
    | zero =>
      simp only [List.getElem?_cons_zero, Option.some.injEq] at hj
      rw [close_below t (i + 1) _ (by omega)] at hx
      have hx2 : (i : Int) ∈ l := by
        split at hx
        · rcases mem_put.1 hx with h | h
          · omega
          · simpa using h
        · simpa using hx
      rw [if_pos ⟨hj, hx2⟩]
      exact close_sub _ _ _ (mem_put.2 (.inl (by simp)))
    | succ j =>
      have e : i + (j + 1) = i + 1 + j := by omega
      rw [e] at hx ⊢
      exact ih (i + 1) j _ (by simpa using hj) hx

theorem close_rise (q : List UInt8) (i : Nat) {l : List Int} (h : Rise l) : Rise (closeFrom q i l) := by
  induction q generalizing i l with
  | nil => exact h
  | cons c t ih =>
    unfold closeFrom
    apply ih
    split
    · exact put_rise h
    · exact h

theorem close_within (p : List UInt8) {l : List Int} (h : Within 0 p.length l) : Within 0 p.length (closeL p l) := by
  refine close_ind (P := fun x => 0 ≤ x ∧ x ≤ p.length) p 0 l h ?_
  intro j hj _ _
  omega

/-- The places that one place gives. -/
theorem mem_step1 {p : List UInt8} {b : UInt8} {out : List Int} {k x : Int} : x ∈ step1 p b out k ↔ x ∈ out ∨ x ∈ step1 p b [] k := by
  unfold step1
  split
  · simp
  · repeat' split
    all_goals simp only [mem_put, List.not_mem_nil, or_false]
    all_goals try exact Or.comm
    all_goals constructor <;> (intro h; rcases h with h | h | h) <;> simp [h]

theorem step1_rise {p : List UInt8} {b : UInt8} {out : List Int} {k : Int} (h : Rise out) : Rise (step1 p b out k) := by
  unfold step1
  split
  · exact h
  · repeat' split
    all_goals first | exact h | exact put_rise (put_rise h) | exact put_rise h

theorem step1_within {p : List UInt8} {b : UInt8} {out : List Int} {k : Int} (h : Within 0 p.length out) (hk : 0 ≤ k) : Within 0 p.length (step1 p b out k) := by
  unfold step1
  split
  · exact h
  · rename_i c hc
    have hlt : k.toNat < p.length := by
      rw [List.getElem?_eq_some_iff] at hc
      exact hc.1
    repeat' split
    all_goals first
      | exact h
      | exact put_within (put_within h (by omega) (by omega)) (by omega) (by omega)
      | exact put_within h (by omega) (by omega)

theorem foldl_mem {p : List UInt8} {b : UInt8} (l : List Int) (out : List Int) {x : Int} : x ∈ l.foldl (step1 p b) out ↔ x ∈ out ∨ ∃ k ∈ l, x ∈ step1 p b [] k := by
  induction l generalizing out with
  | nil => simp
  | cons y t ih =>
    rw [List.foldl_cons, ih, mem_step1]
    simp only [List.mem_cons, exists_eq_or_imp, or_assoc]

theorem mem_out {p : List UInt8} {b : UInt8} {l : List Int} {x : Int} : x ∈ outL p l b ↔ ∃ k ∈ l, x ∈ step1 p b [] k := by
  rw [outL, foldl_mem]; simp

theorem foldl_rise {p : List UInt8} {b : UInt8} (l : List Int) {out : List Int} (h : Rise out) : Rise (l.foldl (step1 p b) out) := by
  induction l generalizing out with
  | nil => exact h
  | cons y t ih => rw [List.foldl_cons]; exact ih (step1_rise h)

theorem foldl_within {p : List UInt8} {b : UInt8} (l : List Int) {out : List Int} (h : Within 0 p.length out) (hl : Within 0 p.length l) : Within 0 p.length (l.foldl (step1 p b) out) := by
  induction l generalizing out with
  | nil => exact h
  | cons y t ih => rw [List.foldl_cons]; exact ih (step1_within h (hl y (by simp)).1) (fun x hx => hl x (by simp [hx]))

theorem step_rise (p : List UInt8) (l : List Int) (b : UInt8) : Rise (stepL p l b) := close_rise _ _ (foldl_rise _ .nil)
theorem step_within {p : List UInt8} {l : List Int} (b : UInt8) (h : Within 0 p.length l) : Within 0 p.length (stepL p l b) :=
  close_within p (foldl_within l (fun _ hx => by simp at hx) h)
theorem start_rise (p : List UInt8) : Rise (startL p) := close_rise _ _ (by simp [Rise])
theorem start_within (p : List UInt8) : Within 0 p.length (startL p) := close_within p (fun x hx => by simp at hx; omega)
theorem run_rise (p s : List UInt8) : Rise (runL p s) := by
  unfold runL
  generalize h : startL p = l
  have hl : Rise l := h ▸ start_rise p
  clear h
  induction s generalizing l with
  | nil => exact hl
  | cons b t ih => exact ih _ (step_rise p l b)
theorem run_within (p s : List UInt8) : Within 0 p.length (runL p s) := by
  unfold runL
  generalize h : startL p = l
  have hl : Within 0 p.length l := h ▸ start_within p
  clear h
  induction s generalizing l with
  | nil => exact hl
  | cons b t ih => exact ih _ (step_within b hl)
theorem rise_len21 {p : List UInt8} {l : List Int} (h : Rise l) (hw : Within 0 p.length l) : l.length ≤ p.length + 1 := by
  have := rise_len h hw (by omega)
  omega

theorem step1_some {p : List UInt8} {k : Nat} {c : UInt8} (h : p[k]? = some c) (b : UInt8) : step1 p b [] (k : Int) =
    if c = 42 then (if b = 47 then [] else [(k : Int)]) else if c = 37 then [(k : Int), (k : Int) + 1] else if c = 63 then (if b = 47 then [] else [(k : Int) + 1]) else if c = b then [(k : Int) + 1] else [] := by
  have h2 : p[(k : Int).toNat]? = some c := h
  unfold step1
  rw [h2]
  have e : putL [(k : Int)] ((k : Int) + 1) = [(k : Int), (k : Int) + 1] := by simp [putL]; omega
  simp only [putL, e]

/-- A pattern, read from its front. -/
def fitM : List UInt8 → List UInt8 → Bool
  | [], s => s.isEmpty
  | c :: p, s =>
    if c = 42 then fitM p s || (match s with
      | [] => false
      | d :: r => !(d == 47) && fitM (c :: p) r)
    else match s with
      | [] => false
      | d :: r =>
        if c = 37 then fitM p r || fitM (c :: p) r
        else if c = 63 then !(d == 47) && fitM p r
        else (d == c) && fitM p r
termination_by p s => p.length + s.length

theorem fitM_nil (s : List UInt8) : fitM [] s = s.isEmpty := by rw [fitM]
theorem fitM_star_nil (p : List UInt8) : fitM (42 :: p) [] = fitM p [] := by rw [fitM]; simp
theorem fitM_star (p : List UInt8) (d : UInt8) (r : List UInt8) : fitM (42 :: p) (d :: r) = (fitM p (d :: r) || !(d == 47) && fitM (42 :: p) r) := by rw [fitM]; simp
theorem fitM_none {c : UInt8} (p : List UInt8) (h : c ≠ 42) : fitM (c :: p) [] = false := by rw [fitM]; simp [h]
theorem fitM_stem (p : List UInt8) (d : UInt8) (r : List UInt8) : fitM (37 :: p) (d :: r) = (fitM p r || fitM (37 :: p) r) := by rw [fitM]; simp
theorem fitM_one (p : List UInt8) (d : UInt8) (r : List UInt8) : fitM (63 :: p) (d :: r) = (!(d == 47) && fitM p r) := by rw [fitM]; simp
theorem fitM_same {c : UInt8} (p : List UInt8) (d : UInt8) (r : List UInt8) (h1 : c ≠ 42) (h2 : c ≠ 37) (h3 : c ≠ 63) : fitM (c :: p) (d :: r) = ((d == c) && fitM p r) := by rw [fitM]; simp [h1, h2, h3]
theorem fitM_skip (p s : List UInt8) (h : fitM p s = true) : fitM (42 :: p) s = true := by
  cases s with
  | nil => rw [fitM_star_nil]; exact h
  | cons d r => rw [fitM_star, h]; rfl

def Closed (p : List UInt8) (l : List Int) : Prop := ∀ j : Nat, p[j]? = some 42 → (j : Int) ∈ l → (j : Int) + 1 ∈ l
theorem closed_close (p : List UInt8) (l : List Int) : Closed p (closeL p l) := by
  intro j hj hx
  have := close_star p 0 j l hj (by simpa [closeL] using hx)
  simpa [closeL] using this

theorem drop_some {p : List UInt8} {k : Nat} {c : UInt8} (h : p[k]? = some c) : p.drop k = c :: p.drop (k + 1) := by
  rw [List.getElem?_eq_some_iff] at h
  obtain ⟨hk, rfl⟩ := h
  rw [List.drop_eq_getElem_cons hk]

theorem at_or {p : List UInt8} {k : Nat} (h : k ≤ p.length) : k = p.length ∨ ∃ c, p[k]? = some c ∧ k < p.length := by
  rcases Nat.lt_or_ge k p.length with h1 | h1
  · exact .inr ⟨p[k], by simp [h1], h1⟩
  · exact .inl (by omega)

theorem acc_nil {p : List UInt8} {l : List Int} (hc : Closed p l) (n : Nat) : ∀ k : Nat, p.length - k = n → k ≤ p.length → (k : Int) ∈ l → fitM (p.drop k) [] = true → (p.length : Int) ∈ l := by
  induction n with
  | zero =>
    intro k h1 h2 h3 _
    have : k = p.length := by omega
    subst this; exact h3
  | succ n ih =>
    intro k h1 h2 h3 h4
    rcases at_or h2 with rfl | ⟨c, hk, hlt⟩
    · omega
    · rw [drop_some hk] at h4
      by_cases h42 : c = 42
      · subst h42
        rw [fitM_star_nil] at h4
        exact ih (k + 1) (by omega) (by omega) (by have := hc k hk h3; simpa using this) h4
      · rw [fitM_none _ h42] at h4; cases h4

theorem acc_step_to {p : List UInt8} {l : List Int} {b : UInt8} {t : List UInt8} (hc : Closed p l) (n : Nat) : ∀ k : Nat, p.length - k = n → k ≤ p.length → (k : Int) ∈ l → fitM (p.drop k) (b :: t) = true →
    ∃ j : Nat, (j : Int) ∈ stepL p l b ∧ fitM (p.drop j) t = true := by
  have put : ∀ (k : Nat) (x : Int), (k : Int) ∈ l → x ∈ step1 p b [] k → x ∈ stepL p l b := fun k x h1 h2 => close_sub _ _ _ (mem_out.2 ⟨k, h1, h2⟩)
  induction n with
  | zero =>
    intro k h1 h2 h3 h4
    have : k = p.length := by omega
    subst this
    simp [fitM_nil] at h4
  | succ n ih =>
    intro k h1 h2 h3 h4
    rcases at_or h2 with rfl | ⟨c, hk, hlt⟩
    · omega
    · have hd := drop_some hk
      rw [hd] at h4
      have hk2 : p[(k : Int).toNat]? = some c := by simpa using hk
      by_cases h42 : c = 42
      · subst h42
        rw [fitM_star, Bool.or_eq_true, Bool.and_eq_true] at h4
        rcases h4 with h4 | ⟨h4, h5⟩
        · exact ih (k + 1) (by omega) (by omega) (by have := hc k hk h3; simpa using this) h4
        · refine ⟨k, put k k h3 ?_, by rw [hd]; exact h5⟩
          have hb : b ≠ 47 := by simpa using h4
          rw [step1_some hk]; simp [hb]
      · by_cases h37 : c = 37
        · subst h37
          rw [fitM_stem, Bool.or_eq_true] at h4
          rcases h4 with h4 | h4
          · exact ⟨k + 1, put k _ h3 (by rw [step1_some hk]; simp), h4⟩
          · exact ⟨k, put k _ h3 (by rw [step1_some hk]; simp), by rw [hd]; exact h4⟩
        · by_cases h63 : c = 63
          · subst h63
            rw [fitM_one, Bool.and_eq_true] at h4
            have hb : b ≠ 47 := by simpa using h4.1
            exact ⟨k + 1, put k _ h3 (by rw [step1_some hk]; simp [hb]), h4.2⟩
          · rw [fitM_same _ _ _ h42 h37 h63, Bool.and_eq_true] at h4
            have hb : c = b := by simpa using (beq_iff_eq.1 h4.1).symm
            exact ⟨k + 1, put k _ h3 (by subst hb; rw [step1_some hk]; simp [h42, h37, h63]), h4.2⟩

theorem acc_step_of {p : List UInt8} {l : List Int} {b : UInt8} {t : List UInt8} (hw : Within 0 p.length l) : ∀ x ∈ stepL p l b, fitM (p.drop x.toNat) t = true → ∃ k : Nat, (k : Int) ∈ l ∧ fitM (p.drop k) (b :: t) = true := by
  refine close_ind (P := fun x => fitM (p.drop x.toNat) t = true → ∃ k : Nat, (k : Int) ∈ l ∧ fitM (p.drop k) (b :: t) = true) p 0 _ ?_ ?_
  · intro x hx0 hf
    obtain ⟨k, hk, hx⟩ := mem_out.1 hx0
    clear hx0
    have hk0 := (hw k hk).1
    refine ⟨k.toNat, by rw [Int.toNat_of_nonneg hk0]; exact hk, ?_⟩
    unfold step1 at hx
    split at hx
    · simp at hx
    · rename_i c hc
      have hd := drop_some hc
      rw [hd]
      have e1 : (k + 1).toNat = k.toNat + 1 := by omega
      split at hx
      · rename_i h; subst h
        split at hx
        · simp at hx
        · rename_i hb
          simp only [mem_put, List.not_mem_nil, or_false] at hx
          subst hx
          rw [hd] at hf
          rw [fitM_star, hf]; simp [hb]
      · rename_i h42
        split at hx
        · rename_i h; subst h
          simp only [mem_put, List.not_mem_nil, or_false] at hx
          rcases hx with rfl | rfl
          · rw [e1] at hf; rw [fitM_stem, hf]; rfl
          · rw [hd] at hf; rw [fitM_stem, hf]; simp
        · rename_i h37
          split at hx
          · rename_i h; subst h
            split at hx
            · simp at hx
            · rename_i hb
              simp only [mem_put, List.not_mem_nil, or_false] at hx
              subst hx
              rw [e1] at hf; rw [fitM_one, hf]; simp [hb]
          · rename_i h63
            split at hx
            · rename_i hb
              simp only [mem_put, List.not_mem_nil, or_false] at hx
              subst hb
              subst hx
              rw [e1] at hf; rw [fitM_same _ _ _ h42 h37 h63, hf]; simp
            · simp at hx
  · intro j hj hq hP hf
    apply hP
    have e1 : (((0 + j : Nat) : Int) + 1).toNat = j + 1 := by omega
    have e2 : ((0 + j : Nat) : Int).toNat = j := by omega
    rw [e1] at hf
    rw [e2, drop_some hq]
    exact fitM_skip _ _ hf

theorem acc_all {p : List UInt8} (s : List UInt8) : ∀ l : List Int, Closed p l → Within 0 p.length l → (((p.length : Int) ∈ s.foldl (stepL p) l) ↔ ∃ k : Nat, (k : Int) ∈ l ∧ fitM (p.drop k) s = true) := by
  induction s with
  | nil =>
    intro l hc hw
    constructor
    · intro h; exact ⟨p.length, h, by simp [fitM_nil]⟩
    · rintro ⟨k, hk, hf⟩
      exact acc_nil hc _ k rfl (by have := (hw _ hk).2; omega) hk hf
  | cons b t ih =>
    intro l hc hw
    rw [List.foldl_cons, ih (stepL p l b) (closed_close p _) (step_within b hw)]
    constructor
    · rintro ⟨k, hk, hf⟩
      exact acc_step_of hw k hk (by simpa using hf)
    · rintro ⟨k, hk, hf⟩
      exact acc_step_to hc _ k rfl (by have := (hw _ hk).2; omega) hk hf

/-- Places and the reading from the front tell the same. -/
theorem fits_fitM (p s : List UInt8) : fitsL p s = fitM p s := by
  rw [Bool.eq_iff_iff, fitsL, hasL, decide_eq_true_iff, runL, acc_all s (startL p) (closed_close p _) (start_within p)]
  constructor
  · rintro ⟨k, hk, hf⟩
    have h : ∀ x ∈ startL p, fitM (p.drop x.toNat) s = true → fitM p s = true := by
      refine close_ind (P := fun x => fitM (p.drop x.toNat) s = true → fitM p s = true) p 0 [0] ?_ ?_
      · intro x hx; simp only [List.mem_singleton] at hx; subst hx; simp
      · intro j hj hq hP hf
        apply hP
        have e1 : (((0 + j : Nat) : Int) + 1).toNat = j + 1 := by omega
        have e2 : ((0 + j : Nat) : Int).toNat = j := by omega
        rw [e1] at hf
        rw [e2, drop_some hq]
        exact fitM_skip _ _ hf
    exact h k hk (by simpa using hf)
  · intro h
    exact ⟨0, close_sub _ _ _ (by simp), by simpa using h⟩

/-- No star, no question mark, no percent sign. -/
def plainB (c : UInt8) : Bool := !(c == 42) && !(c == 63) && !(c == 37)
theorem pb_plain {c : UInt8} (h : pb (c.toNat : Int) = true) : plainB c = true := by
  have h42 : c ≠ 42 := by rintro rfl; exact absurd h (by decide)
  have h63 : c ≠ 63 := by rintro rfl; exact absurd h (by decide)
  have h37 : c ≠ 37 := by rintro rfl; exact absurd h (by decide)
  simp [plainB, h42, h63, h37]
theorem plain_pb {c : UInt8} (h : patB c = true) (hp : plainB c = true) : pb (c.toNat : Int) = true := by
  simp only [plainB, Bool.and_eq_true, Bool.not_eq_true'] at hp
  simpa [patB, hp.1.1, hp.1.2, hp.2] using h
theorem plain_fit {p : List UInt8} (h : p.all plainB = true) (s : List UInt8) : fitM p s = decide (s = p) := by
  induction p generalizing s with
  | nil => rw [fitM_nil]; cases s <;> simp
  | cons c t ih =>
    rw [List.all_cons, Bool.and_eq_true] at h
    obtain ⟨hc, ht⟩ := h
    simp only [plainB, Bool.and_eq_true, Bool.not_eq_true', beq_eq_false_iff_ne] at hc
    cases s with
    | nil => rw [fitM_none _ hc.1.1]; simp
    | cons d r => rw [fitM_same _ _ _ hc.1.1 hc.2 hc.1.2, ih ht, Bool.eq_iff_iff]; simp
theorem path_fit {p s : List UInt8} (h : okL p = true) : fitsL p s = decide (s = p) := by
  rw [fits_fitM, plain_fit]
  rw [List.all_eq_true]
  intro c hc
  exact pb_plain (by rw [okL, List.all_eq_true] at h; exact h c hc)

/-- Where the one percent sign stands. -/
def stemFrom : List UInt8 → Nat → Int → Int
  | [], _, k => k
  | c :: t, i, k => if c = 42 ∨ c = 63 then -1 else if c = 37 then (if 0 ≤ k then -1 else stemFrom t (i + 1) i) else stemFrom t (i + 1) k
def stemAt (p : List UInt8) : Int := stemFrom p 0 (-1)

theorem stem_found (q : List UInt8) (i k : Nat) : stemFrom q i k = if q.all plainB then (k : Int) else -1 := by
  induction q generalizing i with
  | nil => rfl
  | cons c t ih =>
    unfold stemFrom
    by_cases h1 : c = 42 ∨ c = 63
    · rw [if_pos h1]; rcases h1 with rfl | rfl <;> simp [plainB]
    · rw [if_neg h1]
      by_cases h2 : c = 37
      · subst h2; simp [plainB]
      · rw [if_neg h2, ih]
        have : plainB c = true := by simp only [not_or] at h1; simp [plainB, h1.1, h1.2, h2]
        rw [List.all_cons, this, Bool.true_and]

theorem stem_split (q : List UInt8) (i : Nat) : stemFrom q i (-1) = -1 ∨ ∃ a b, q = a ++ 37 :: b ∧ stemFrom q i (-1) = ((i + a.length : Nat) : Int) ∧ a.all plainB = true ∧ b.all plainB = true := by
  induction q generalizing i with
  | nil => exact .inl rfl
  | cons c t ih =>
    unfold stemFrom
    by_cases h1 : c = 42 ∨ c = 63
    · rw [if_pos h1]; exact .inl rfl
    · rw [if_neg h1]
      by_cases h2 : c = 37
      · subst h2
        rw [if_pos rfl, if_neg (by decide), stem_found]
        by_cases h3 : t.all plainB = true
        · rw [if_pos h3]; exact .inr ⟨[], t, rfl, by simp, rfl, h3⟩
        · rw [if_neg h3]; exact .inl rfl
      · rw [if_neg h2]
        rcases ih (i + 1) with h | ⟨a, b, rfl, h, ha, hb⟩
        · exact .inl h
        · refine .inr ⟨c :: a, b, rfl, by rw [h]; simp; omega, ?_, hb⟩
          simp only [not_or] at h1
          rw [List.all_cons, ha]; simp [plainB, h1.1, h1.2, h2]

theorem stem_cases (p : List UInt8) : stemAt p = -1 ∨ ∃ a b, p = a ++ 37 :: b ∧ stemAt p = (a.length : Int) ∧ a.all plainB = true ∧ b.all plainB = true := by
  have := stem_split p 0
  simpa [stemAt] using this

theorem front_fit {a : List UInt8} (ha : a.all plainB = true) (q s : List UInt8) : fitM (a ++ q) s = true ↔ ∃ r, s = a ++ r ∧ fitM q r = true := by
  induction a generalizing s with
  | nil => simp
  | cons c t ih =>
    rw [List.all_cons, Bool.and_eq_true] at ha
    obtain ⟨hc, ht⟩ := ha
    simp only [plainB, Bool.and_eq_true, Bool.not_eq_true', beq_eq_false_iff_ne] at hc
    cases s with
    | nil => rw [List.cons_append, fitM_none _ hc.1.1]; simp
    | cons d r =>
      rw [List.cons_append, fitM_same _ _ _ hc.1.1 hc.2 hc.1.2, Bool.and_eq_true, ih ht, beq_iff_eq]
      constructor
      · rintro ⟨rfl, r', rfl, h⟩; exact ⟨r', rfl, h⟩
      · rintro ⟨r', h, h2⟩
        rw [List.cons_append, List.cons.injEq] at h
        exact ⟨h.1, r', h.2, h2⟩

theorem back_fit {b : List UInt8} (hb : b.all plainB = true) (s : List UInt8) : fitM (37 :: b) s = true ↔ ∃ t, t ≠ [] ∧ s = t ++ b := by
  induction s with
  | nil => rw [fitM_none _ (by decide)]; simp; exact fun x h1 h2 => absurd h2 h1
  | cons d r ih =>
    rw [fitM_stem, Bool.or_eq_true, ih, plain_fit hb, decide_eq_true_iff]
    constructor
    · rintro (rfl | ⟨t, ht, rfl⟩)
      · exact ⟨[d], by simp, rfl⟩
      · exact ⟨d :: t, by simp, rfl⟩
    · rintro ⟨t, ht, h⟩
      cases t with
      | nil => exact absurd rfl ht
      | cons e u =>
        rw [List.cons_append, List.cons.injEq] at h
        cases u with
        | nil => exact .inl (by simpa using h.2)
        | cons f v => exact .inr ⟨f :: v, by simp, h.2⟩

/-- A pattern with one percent sign fits what it is filled to. -/
theorem stem_fit {a b : List UInt8} (ha : a.all plainB = true) (hb : b.all plainB = true) (s : List UInt8) : fitsL (a ++ 37 :: b) s = true ↔ ∃ t, t ≠ [] ∧ s = a ++ t ++ b := by
  rw [fits_fitM, front_fit ha]
  constructor
  · rintro ⟨r, rfl, h⟩
    obtain ⟨t, ht, rfl⟩ := (back_fit hb r).1 h
    exact ⟨t, ht, by simp⟩
  · rintro ⟨t, ht, rfl⟩
    exact ⟨t ++ b, by simp, (back_fit hb _).2 ⟨t, ht, rfl⟩⟩

end Pth
end Go.Proofs.YtoahfhidekmodaaDoor
