/- Plain mathematics: a clean path stays, what is within is joined, the way leads there. -/
import Derived.Test.YtkdplfmfmalllaaDoorV
namespace Go.Proofs.YtkdplfmfmalllaaDoor
open Pth

/-- Parts that stay: no slash in them, and each is put behind those ahead of it. -/
def Norm (r : Bool) (a : List (List UInt8)) : Prop := (∀ p ∈ a, ¬ (47 : UInt8) ∈ p) ∧ ∀ x q y, a = x ++ q :: y → pstep r x q = x ++ [q]

theorem norm_nil (r : Bool) : Norm r [] := ⟨by simp, fun x q y h => by simp at h⟩
theorem norm_front {r : Bool} {a : List (List UInt8)} {p : List UInt8} (h : Norm r (a ++ [p])) : Norm r a :=
  ⟨fun q hq => h.1 q (by simp [hq]), fun x q y e => h.2 x q (y ++ [p]) (by rw [e]; simp)⟩
theorem norm_snoc {r : Bool} {a : List (List UInt8)} {p : List UInt8} (h : Norm r a) (hp : ¬ (47 : UInt8) ∈ p) (hs : pstep r a p = a ++ [p]) : Norm r (a ++ [p]) := by
  refine ⟨fun q hq => ?_, fun x q y e => ?_⟩
  · rcases List.mem_append.1 hq with h1 | h1
    · exact h.1 q h1
    · rw [List.mem_singleton.1 h1]; exact hp
  · rcases last_of y with rfl | ⟨z, t, rfl⟩
    · have := List.append_inj' e (by simp)
      obtain ⟨h1, h2⟩ := this
      subst h1
      injection h2 with h2
      subst h2
      exact hs
    · have e2 : a ++ [p] = (x ++ q :: z) ++ [t] := by rw [e]; simp
      have := List.append_inj' e2 (by simp)
      exact h.2 x q z this.1

theorem pstep_cases (r : Bool) (a : List (List UInt8)) (p : List UInt8) : pstep r a p = a ∨ (∃ q, a = pstep r a p ++ [q]) ∨ pstep r a p = a ++ [p] := by
  by_cases h0 : p = [] ∨ p = [46]
  · exact .inl (pstep_skip h0)
  · by_cases h1 : p = dots
    · subst h1
      rcases last_of a with rfl | ⟨x, q, rfl⟩
      · cases r
        · exact .inr (.inr pstep_up0)
        · exact .inl pstep_stay0
      · by_cases hq : q = dots
        · subst hq
          cases r
          · exact .inr (.inr (pstep_up x))
          · exact .inl (pstep_stay x)
        · exact .inr (.inl ⟨q, by rw [pstep_drop hq]⟩)
    · exact .inr (.inr (pstep_name (fun h => h0 (.inl h)) (fun h => h0 (.inr h)) h1))
theorem norm_pstep {r : Bool} {a : List (List UInt8)} {p : List UInt8} (h : Norm r a) (hp : ¬ (47 : UInt8) ∈ p) : Norm r (pstep r a p) := by
  rcases pstep_cases r a p with e | ⟨q, e⟩ | e
  · rw [e]; exact h
  · rw [e] at h; exact norm_front h
  · rw [e]; exact norm_snoc h hp e
theorem norm_from {r : Bool} (l : List (List UInt8)) : ∀ acc, Norm r acc → (∀ p ∈ l, ¬ (47 : UInt8) ∈ p) → Norm r (partsFrom r acc l) := by
  induction l with
  | nil => intro acc h _; exact h
  | cons p t ih => intro acc h hl; exact ih _ (norm_pstep h (hl p (by simp))) (fun q hq => hl q (by simp [hq]))

theorem splitAux_free (l : List UInt8) : ∀ cur, ¬ (47 : UInt8) ∈ cur → ∀ p ∈ splitAux cur l, ¬ (47 : UInt8) ∈ p := by
  induction l with
  | nil => intro cur hc p hp; simp [splitAux] at hp; subst hp; simpa using hc
  | cons c r ih =>
    intro cur hc p hp
    rw [splitAux] at hp
    split at hp
    · rcases List.mem_cons.1 hp with h | h
      · rw [h]; simpa using hc
      · exact ih [] (by simp) p h
    · rename_i hne
      exact ih (c :: cur) (by simp [hc]; exact fun h => hne h.symm) p hp
theorem split_free (l : List UInt8) : ∀ p ∈ splitL l, ¬ (47 : UInt8) ∈ p := splitAux_free l [] (by simp)
theorem norm_parts (l : List UInt8) : Norm (rootedL l) (partsL l) := norm_from _ [] (norm_nil _) (split_free l)

theorem partsFrom_append (r : Bool) (l m : List (List UInt8)) : ∀ acc, partsFrom r acc (l ++ m) = partsFrom r (partsFrom r acc l) m := by
  induction l with
  | nil => intro acc; rfl
  | cons p t ih => intro acc; exact ih _
/-- What stays is put behind one by one. -/
theorem norm_run {r : Bool} (y : List (List UInt8)) : ∀ x, Norm r (x ++ y) → partsFrom r x y = x ++ y := by
  induction y with
  | nil => intro x _; simp [partsFrom]
  | cons q t ih =>
    intro x h
    rw [partsFrom, h.2 x q t rfl]
    have := ih (x ++ [q]) (by simpa using h)
    rw [this]; simp

theorem splitAux_plain (p : List UInt8) (hp : ¬ (47 : UInt8) ∈ p) : ∀ cur, splitAux cur p = [cur.reverse ++ p] := by
  induction p with
  | nil => intro cur; simp [splitAux]
  | cons c r ih =>
    intro cur
    have h1 : ¬ c = 47 := fun h => hp (by simp [h])
    rw [splitAux, if_neg h1, ih (fun h => hp (by simp [h]))]
    simp
theorem splitAux_join (p l : List UInt8) : ∀ cur, splitAux cur (p ++ 47 :: l) = splitAux cur p ++ splitL l := by
  induction p with
  | nil => intro cur; simp [splitAux, splitL]
  | cons c r ih =>
    intro cur
    rw [List.cons_append, splitAux, splitAux]
    split
    · rw [ih []]; simp
    · exact ih _
theorem split_join (p l : List UInt8) : splitL (p ++ 47 :: l) = splitL p ++ splitL l := splitAux_join p l []
theorem split_plain {p : List UInt8} (hp : ¬ (47 : UInt8) ∈ p) : splitL p = [p] := by rw [splitL, splitAux_plain p hp]; simp
theorem split_glue {a : List (List UInt8)} (h0 : ¬ a = []) (h : ∀ p ∈ a, ¬ (47 : UInt8) ∈ p) : splitL (glue a) = a := by
  induction a with
  | nil => exact absurd rfl h0
  | cons p t ih =>
    cases t with
    | nil => exact split_plain (h p (by simp))
    | cons q u =>
      show splitL (p ++ 47 :: glue (q :: u)) = _
      rw [split_join, split_plain (h p (by simp)), ih (by simp) (fun x hx => h x (by simp [hx]))]
      rfl

theorem norm_full {r : Bool} {a : List (List UInt8)} (h : Norm r a) : Full a := by
  intro p hp e
  subst e
  obtain ⟨x, y, rfl⟩ := List.append_of_mem hp
  have := h.2 x [] y rfl
  rw [pstep_skip (.inl rfl)] at this
  have := congrArg List.length this
  simp at this
theorem norm_dot {r : Bool} {a : List (List UInt8)} (h : Norm r a) : ∀ p ∈ a, ¬ p = [46] := by
  intro p hp e
  subst e
  obtain ⟨x, y, rfl⟩ := List.append_of_mem hp
  have := h.2 x [46] y rfl
  rw [pstep_skip (.inr rfl)] at this
  have := congrArg List.length this
  simp at this

theorem rooted_glue {r : Bool} {a : List (List UInt8)} (h : Norm r a) : rootedL (glue a) = false := by
  cases a with
  | nil => rfl
  | cons p t =>
    have hp := norm_full h p (by simp)
    have hs := h.1 p (by simp)
    cases p with
    | nil => exact absurd rfl hp
    | cons c u =>
      have hc : ¬ c = 47 := fun e => hs (by simp [e])
      cases t with
      | nil => simp [glue, rootedL, hc]
      | cons q v => simp [glue, rootedL, hc]
theorem join_rooted {r : Bool} {a : List (List UInt8)} (h : Norm r a) : rootedL (joinL a r) = r := by
  unfold joinL
  cases r
  · simp only [Bool.false_eq_true, if_false]
    split
    · rfl
    · exact rooted_glue h
  · rfl
/-- The pieces of a text of parts: the parts, but for what is left out. -/
theorem join_split {r : Bool} {a : List (List UInt8)} (h : Norm r a) (acc : List (List UInt8)) (r' : Bool) : partsFrom r' acc (splitL (joinL a r)) = partsFrom r' acc a := by
  have hd : ∀ b : Bool, pstep b acc [46] = acc := fun b => pstep_skip (.inr rfl)
  have he : ∀ b : Bool, pstep b acc [] = acc := fun b => pstep_skip (.inl rfl)
  unfold joinL
  by_cases h0 : a = []
  · subst h0
    cases r
    · show partsFrom r' acc (splitL [46]) = _
      rw [split_plain (by decide)]; simp [partsFrom, hd]
    · show partsFrom r' acc (splitL ([] ++ 47 :: [])) = _
      rw [split_join]; simp [splitL, splitAux, partsFrom, he]
  · have hg : ¬ glue a = [] := fun e => h0 ((glue_nil (norm_full h)).1 e)
    cases r
    · simp only [Bool.false_eq_true, if_false, hg]
      rw [split_glue h0 h.1]
    · simp only [if_true]
      show partsFrom r' acc (splitL ([] ++ 47 :: glue a)) = _
      rw [split_join, split_glue h0 h.1]
      simp [splitL, splitAux, partsFrom, he]
theorem join_parts {r : Bool} {a : List (List UInt8)} (h : Norm r a) : partsL (joinL a r) = a := by
  unfold partsL
  rw [join_rooted h, join_split h]
  exact norm_run a [] h

theorem clean_rooted (l : List UInt8) : rootedL (cleanL l) = rootedL l := join_rooted (norm_parts l)
theorem clean_parts (l : List UInt8) : partsL (cleanL l) = partsL l := join_parts (norm_parts l)
theorem clean_clean (l : List UInt8) : cleanL (cleanL l) = cleanL l := by
  show joinL (partsL (cleanL l)) (rootedL (cleanL l)) = _
  rw [clean_parts, clean_rooted]; rfl

/- The bytes of a clean path, and how many. -/
theorem ok_append (a b : List UInt8) : okL (a ++ b) = (okL a && okL b) := by simp [okL]
theorem ok_cons (c : UInt8) (b : List UInt8) : okL (c :: b) = (pb (c.toNat : Int) && okL b) := by simp [okL]
theorem ok_splitAux (l : List UInt8) : ∀ cur, okL cur = true → okL l = true → ∀ p ∈ splitAux cur l, okL p = true := by
  induction l with
  | nil => intro cur hc _ p hp; simp [splitAux] at hp; subst hp; simpa [okL] using hc
  | cons c r ih =>
    intro cur hc hl p hp
    rw [ok_cons, Bool.and_eq_true] at hl
    rw [splitAux] at hp
    split at hp
    · rcases List.mem_cons.1 hp with h | h
      · rw [h]; simpa [okL] using hc
      · exact ih [] rfl hl.2 p h
    · exact ih (c :: cur) (by rw [ok_cons, hl.1, hc]; rfl) hl.2 p hp
theorem ok_pstep {r : Bool} {a : List (List UInt8)} {p : List UInt8} (h : ∀ q ∈ a, okL q = true) (hp : okL p = true) : ∀ q ∈ pstep r a p, okL q = true := by
  rcases pstep_cases r a p with e | ⟨t, e⟩ | e
  · rw [e]; exact h
  · intro q hq; exact h q (by rw [e]; simp [hq])
  · intro q hq
    rw [e] at hq
    rcases List.mem_append.1 hq with h1 | h1
    · exact h q h1
    · rw [List.mem_singleton.1 h1]; exact hp
theorem ok_from {r : Bool} (l : List (List UInt8)) : ∀ acc, (∀ q ∈ acc, okL q = true) → (∀ q ∈ l, okL q = true) → ∀ q ∈ partsFrom r acc l, okL q = true := by
  induction l with
  | nil => intro acc h _; exact h
  | cons p t ih => intro acc h hl; exact ih _ (ok_pstep h (hl p (by simp))) (fun q hq => hl q (by simp [hq]))
theorem ok_glue (a : List (List UInt8)) (h : ∀ q ∈ a, okL q = true) : okL (glue a) = true := by
  induction a with
  | nil => rfl
  | cons p t ih =>
    cases t with
    | nil => exact h p (by simp)
    | cons q u =>
      show okL (p ++ 47 :: glue (q :: u)) = true
      rw [ok_append, ok_cons, h p (by simp), ih (fun x hx => h x (by simp [hx]))]
      rfl
theorem ok_join {a : List (List UInt8)} (r : Bool) (h : ∀ q ∈ a, okL q = true) : okL (joinL a r) = true := by
  unfold joinL
  split
  · rw [ok_cons, ok_glue a h]; rfl
  · split
    · rfl
    · exact ok_glue a h
theorem ok_parts {l : List UInt8} (h : okL l = true) : ∀ q ∈ partsL l, okL q = true := ok_from _ [] (by simp) (ok_splitAux l [] rfl h)
theorem ok_clean {l : List UInt8} (h : okL l = true) : okL (cleanL l) = true := ok_join _ (ok_parts h)

theorem glue_weigh {a : List (List UInt8)} (h : ¬ a = []) : (glue a).length + 1 = weigh a := by
  induction a with
  | nil => exact absurd rfl h
  | cons p t ih =>
    cases t with
    | nil => simp [glue, weigh]
    | cons q u =>
      have := ih (by simp)
      simp only [glue, weigh, List.length_append, List.length_cons] at this ⊢
      omega
theorem clean_short (l : List UInt8) : (cleanL l).length ≤ max 1 l.length := by
  have hw := weigh_l l
  unfold cleanL joinL
  by_cases h0 : partsL l = []
  · rw [h0]
    cases rootedL l <;> simp [glue] <;> omega
  · have hg := glue_weigh h0
    cases hr : rootedL l
    · simp only [Bool.false_eq_true, if_false]
      split
      · simp; omega
      · omega
    · simp only [if_true, List.length_cons]
      cases l with
      | nil => simp [rootedL] at hr
      | cons c u =>
        have hc : c = 47 := by simpa [rootedL] using hr
        subst hc
        have e : splitL (47 :: u) = [] :: splitL u := by
          simp [splitL, splitAux]
        have e2 : partsL (47 :: u) = partsFrom true [] (splitL u) := by
          unfold partsL
          rw [hr, e, partsFrom, pstep_skip (.inl rfl)]
        have h3 := weigh_from true (splitL u) []
        have h4 := weigh_splitAux u []
        rw [← e2] at h3
        simp only [weigh, splitL, List.length_nil] at h3 h4
        simp only [List.length_cons]
        omega
theorem clean_path {l : List UInt8} (h : pathL l = true) : pathL (cleanL l) = true := by
  have hs := clean_short l
  simp only [pathL, Bool.and_eq_true, decide_eq_true_eq] at h ⊢
  exact ⟨ok_clean h.1, by omega⟩

theorem alike_self (a : List (List UInt8)) : alikeN a a = a.length := by
  induction a with
  | nil => rfl
  | cons p t ih => simp [alikeN, ih]
theorem in_self (a : List (List UInt8)) : inParts a a = true := by
  unfold inParts
  split
  · rename_i h; rw [h]; rfl
  · rw [alike_self]; simp

theorem join_some (a : List (List UInt8)) (r : Bool) : ¬ joinL a r = [] := by
  unfold joinL
  split
  · simp
  · split
    · simp
    · assumption
theorem slash_both {a b : List UInt8} (ha : ¬ a = []) (hb : ¬ b = []) : slashL a b = a ++ 47 :: b := by simp [slashL, ha, hb]
theorem rooted_ahead {a : List UInt8} (ha : ¬ a = []) (b : List UInt8) : rootedL (a ++ b) = rootedL a := by
  cases a with
  | nil => exact absurd rfl ha
  | cons c t => rfl
theorem parts_slash {a b : List UInt8} (ha : ¬ a = []) : partsL (a ++ 47 :: b) = partsFrom (rootedL a) (partsL a) (splitL b) := by
  unfold partsL
  rw [rooted_ahead ha, split_join, partsFrom_append]

/-- The place and the last part make the path. -/
theorem dir_base {l : List UInt8} (h : pathL l = true) : cleanL (slashL (dirT l) (baseT l)) = cleanL l := by
  rw [dirT_yes h]
  rcases last_of (partsL l) with hp | ⟨a, q, hp⟩
  · rw [baseT_nil h hp, clean_nil hp, hp]
    cases rootedL l <;> decide
  · have hN := norm_parts l
    rw [hp] at hN
    have hNa := norm_front hN
    have hq : ¬ q = [] := norm_full hN q (by simp)
    have hqs : ¬ (47 : UInt8) ∈ q := hN.1 q (by simp)
    rw [baseT_last h hp, hp, List.dropLast_concat, slash_both (join_some _ _) hq]
    show joinL (partsL (joinL a (rootedL l) ++ 47 :: q)) (rootedL (joinL a (rootedL l) ++ 47 :: q)) = _
    rw [parts_slash (join_some _ _), rooted_ahead (join_some _ _), join_rooted hNa, join_parts hNa, split_plain hqs, partsFrom, hN.2 a q [] rfl, partsFrom]
    unfold cleanL
    rw [hp]

theorem no_ups {r : Bool} {a : List (List UInt8)} (h : Norm r a) (hu : upsL a = false) : ∀ n x y, x.length = n → ¬ a = x ++ dots :: y := by
  intro n
  induction n with
  | zero =>
    intro x y hx e
    obtain rfl := List.eq_nil_of_length_eq_zero hx
    rw [e] at hu
    simp [upsL, dots] at hu
  | succ n ih =>
    intro x y hx e
    have hs := h.2 x dots y e
    rcases last_of x with rfl | ⟨z, q, rfl⟩
    · simp at hx
    · by_cases hq : q = dots
      · subst hq
        exact ih z (dots :: y) (by simpa using hx) (by rw [e]; simp)
      · rw [pstep_drop hq] at hs
        have := congrArg List.length hs
        simp at this
theorem no_dots {r : Bool} {a : List (List UInt8)} (h : Norm r a) (hu : upsL a = false) : ∀ p ∈ a, ¬ p = dots := by
  intro p hp e
  subst e
  obtain ⟨x, y, hxy⟩ := List.append_of_mem hp
  exact no_ups h hu x.length x y rfl hxy

theorem drops (r : Bool) (x : List (List UInt8)) : ∀ (n : Nat) (rest : List (List UInt8)), rest.length = n → (∀ p ∈ rest, ¬ p = dots) → partsFrom r (x ++ rest) (List.replicate n dots) = x := by
  intro n
  induction n with
  | zero => intro rest hr _; obtain rfl := List.eq_nil_of_length_eq_zero hr; simp [partsFrom]
  | succ n ih =>
    intro rest hr hd
    rcases last_of rest with rfl | ⟨z, q, rfl⟩
    · simp at hr
    · have hq : ¬ q = dots := hd q (by simp)
      rw [List.replicate_succ, partsFrom, ← List.append_assoc, pstep_drop hq]
      exact ih z (by simpa using hr) (fun p hp => hd p (by simp [hp]))
theorem take_alike (a b : List (List UInt8)) : a.take (alikeN a b) = b.take (alikeN a b) := by
  induction a generalizing b with
  | nil => simp [alikeN]
  | cons x r ih =>
    cases b with
    | nil => simp [alikeN]
    | cons y t =>
      unfold alikeN
      split
      · rename_i h; rw [List.take_succ_cons, List.take_succ_cons, h, ih]
      · simp

theorem norm_ups (n : Nat) : Norm false (List.replicate n dots) := by
  induction n with
  | zero => exact norm_nil _
  | succ n ih =>
    rw [List.replicate_succ']
    refine norm_snoc ih (by decide) ?_
    cases n with
    | zero => exact pstep_up0
    | succ n => rw [List.replicate_succ']; exact pstep_up _
theorem norm_more {x : List (List UInt8)} (y : List (List UInt8)) : Norm false x → (∀ p ∈ y, ¬ (47 : UInt8) ∈ p ∧ ¬ p = [] ∧ ¬ p = [46] ∧ ¬ p = dots) → Norm false (x ++ y) := by
  induction y generalizing x with
  | nil => intro h _; simpa using h
  | cons p t ih =>
    intro h hy
    obtain ⟨h1, h2, h3, h4⟩ := hy p (by simp)
    have := ih (norm_snoc h h1 (pstep_name h2 h3 h4)) (fun q hq => hy q (by simp [hq]))
    simpa using this

/-- The way leads there. -/
theorem way_there {a b : List UInt8} (h : relB a b = true) : cleanL (slashL a (relT a b)) = cleanL b := by
  rw [rel_yes h]
  simp only [relB, Bool.and_eq_true, Bool.not_eq_true', beq_iff_eq] at h
  obtain ⟨⟨⟨⟨⟨_, _⟩, hr⟩, hua⟩, hub⟩, _⟩ := h
  have hNa := norm_parts a
  have hNb := norm_parts b
  have hda := no_dots hNa hua
  have hdb := no_dots hNb hub
  have hal := alike_le (partsL a) (partsL b)
  have htk := take_alike (partsL a) (partsL b)
  have hNw : Norm false (wayL (partsL a) (partsL b)) := norm_more _ (norm_ups _) (fun p hp => by
    have hm := List.drop_subset _ _ hp
    exact ⟨hNb.1 p hm, norm_full hNb p hm, norm_dot hNb p hm, hdb p hm⟩)
  have hrun : partsFrom (rootedL a) (partsL a) (wayL (partsL a) (partsL b)) = partsL b := by
    unfold wayL
    rw [partsFrom_append]
    have e1 : partsL a = (partsL a).take (alikeN (partsL a) (partsL b)) ++ (partsL a).drop (alikeN (partsL a) (partsL b)) := (List.take_append_drop _ _).symm
    have e2 := drops (rootedL a) ((partsL a).take (alikeN (partsL a) (partsL b))) ((partsL a).length - alikeN (partsL a) (partsL b)) ((partsL a).drop (alikeN (partsL a) (partsL b))) (by rw [List.length_drop]) (fun p hp => hda p (List.drop_subset _ _ hp))
    rw [← e1] at e2
    rw [e2, htk, hr]
    have := norm_run (r := rootedL b) ((partsL b).drop (alikeN (partsL a) (partsL b))) ((partsL b).take (alikeN (partsL a) (partsL b))) (by rw [List.take_append_drop]; exact hNb)
    rw [this, List.take_append_drop]
  unfold relText
  by_cases h0 : a = []
  · subst h0
    rw [slash0]
    have e1 : rootedL ([] : List UInt8) = false := rfl
    have e2 : partsL ([] : List UInt8) = [] := by decide
    rw [e1, e2] at hrun
    rw [e1] at hr
    show joinL (partsL (joinL (wayL (partsL []) (partsL b)) false)) (rootedL (joinL (wayL (partsL []) (partsL b)) false)) = _
    rw [join_parts hNw, join_rooted hNw, e2]
    rw [e2] at hNw
    have := norm_run (r := false) (wayL [] (partsL b)) [] (by simpa using hNw)
    rw [hrun] at this
    have e3 : wayL [] (partsL b) = partsL b := by simpa using this.symm
    rw [e3]
    unfold cleanL
    rw [← hr]
  · rw [slash_both h0 (join_some _ _)]
    show joinL (partsL (a ++ 47 :: joinL (wayL (partsL a) (partsL b)) false)) (rootedL (a ++ 47 :: joinL (wayL (partsL a) (partsL b)) false)) = _
    rw [parts_slash h0, rooted_ahead h0, join_split hNw, hrun, hr]
    rfl

theorem join_clean {a b : List UInt8} (h : joinB a b = true) : isT (joinT a b) = true ∧ pathL (joinT a b) = true := by
  rw [join_yes h]
  simp only [joinB, Bool.and_eq_true, decide_eq_true_eq] at h
  obtain ⟨⟨ha, hb⟩, hl⟩ := h
  simp only [pathL, Bool.and_eq_true] at ha hb
  have hok : okL (slashL a b) = true := by
    unfold slashL
    split
    · exact hb.1
    · split
      · exact ha.1
      · rw [ok_append, ok_cons, ha.1, hb.1]; rfl
  have hp : pathL (cleanL (slashL a b)) = true := by simp only [pathL, ok_clean hok, hl, decide_true, Bool.and_self]
  exact ⟨by rw [isT_yes hp, clean_clean]; simp, hp⟩

end Go.Proofs.YtkdplfmfmalllaaDoor
