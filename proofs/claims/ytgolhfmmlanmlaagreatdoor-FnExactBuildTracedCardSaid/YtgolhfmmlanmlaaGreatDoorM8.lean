/- Texts of one claim, joined in their order. -/
import Derived.ArgAppend
import Derived.Test.YtgolhfmmlanmlaaGreatDoorM7
import Derived.Test.YtgolhfmmlanmlaaGreatDoorM3
import Derived.Test.YtgolhfmmlanmlaaGreatDoorM1

/- Traces as mathematics. -/
namespace Go.Proofs.YtgolhfmmlanmlaaGreatDoor
open Go.RowKit Pth

/-- A trace: its task, its inputs, what came out. -/
abbrev TrT := Int × List (List UInt8) × ResT
def noTr : TrT := (0, [], noRes)
/-- Whether these are inputs of a task that is no source. -/
def insOk (ls : List (List Int)) (bs : List Bool) (t : Int) (ins : List (List UInt8)) : Bool :=
  decide (0 ≤ t) && decide (t < (ls.length : Int)) && !bs.getD t.toNat false && decide (ins.length = (ls.getD t.toNat []).length) && textsL ins
/-- Whether it is a trace of the plan. -/
def traceA (ls : List (List Int)) (bs : List Bool) (t : TrT) : Bool := insOk ls bs t.1 t.2.1 && resOk t.2.2 && decide (t.2.2.2 ≠ 2)
/-- Where a trace of these lies. -/
def isT (t : Int) (ins : List (List UInt8)) (x : TrT) : Bool := decide (x.1 = t) && decide (x.2.1 = ins)
def findT (T : List TrT) (t : Int) (ins : List (List UInt8)) : Option Nat := T.findIdx? (isT t ins)
def findK (T : List TrT) (t : Int) (ins : List (List UInt8)) : Int := match findT T t ins with | some k => (k : Int) | none => -1
theorem findT_lt {T : List TrT} {t : Int} {ins : List (List UInt8)} {k : Nat} (h : findT T t ins = some k) : k < T.length := by
  obtain ⟨h1, _⟩ := List.findIdx?_eq_some_iff_getElem.1 h
  exact h1
theorem find_next {T : List TrT} {t : Int} {ins : List (List UInt8)} {k : Nat} (hk : k < T.length) (h : (T.take k).any (isT t ins) = false) (hn : isT t ins T[k] = false) : (T.take (k + 1)).any (isT t ins) = false := by
  rw [List.take_succ_eq_append_getElem hk, List.any_append, h]; simp [hn]
theorem find_here {T : List TrT} {t : Int} {ins : List (List UInt8)} {k : Nat} (hk : k < T.length) (h : (T.take k).any (isT t ins) = false) (hn : isT t ins T[k] = true) : findT T t ins = some k := by
  unfold findT
  rw [List.findIdx?_eq_some_iff_getElem]
  refine ⟨hk, hn, fun j hj => ?_⟩
  have := List.any_eq_false.1 h (T[j]'(by omega)) (by rw [List.mem_take_iff_getElem]; exact ⟨j, by omega, rfl⟩)
  simpa using this
theorem find_none {T : List TrT} {t : Int} {ins : List (List UInt8)} (h : T.any (isT t ins) = false) : findT T t ins = none := by
  unfold findT
  rw [List.findIdx?_eq_none_iff]
  intro x hx
  have := List.any_eq_false.1 h x hx
  simpa using this
/-- What holds of the trace at a place of a good list. -/
def trP (ls : List (List Int)) (bs : List Bool) (T : List TrT) (k : Nat) : Bool := traceA ls bs (T.getD k noTr) && (findT (T.take k) (T.getD k noTr).1 (T.getD k noTr).2.1).isNone
theorem trP_at {ls : List (List Int)} {bs : List Bool} {T : List TrT} {k : Nat} (hk : k < T.length) : trP ls bs T k = (traceA ls bs T[k] && (findT (T.take k) T[k].1 T[k].2.1).isNone) := by
  unfold trP; rw [getD_at _ hk]
/-- Whether they are good traces of the plan. -/
noncomputable def goodT (ls : List (List Int)) (l : List Int) (bs : List Bool) (rs : List (List OpT)) (T : List TrT) : Bool :=
  planA ls l bs rs && decide (T.length ≤ 40) && (List.range T.length).all (trP ls bs T)
theorem goodT_parts {ls : List (List Int)} {l : List Int} {bs : List Bool} {rs : List (List OpT)} {T : List TrT} (h : goodT ls l bs rs T = true) :
    planA ls l bs rs = true ∧ T.length ≤ 40 ∧ ∀ k, k < T.length → trP ls bs T k = true := by
  unfold goodT at h
  rw [Bool.and_eq_true, Bool.and_eq_true, decide_eq_true_eq, List.all_eq_true] at h
  exact ⟨h.1.1, h.1.2, fun k hk => h.2 k (List.mem_range.2 hk)⟩
theorem goodT_of {ls : List (List Int)} {l : List Int} {bs : List Bool} {rs : List (List OpT)} {T : List TrT} (h1 : planA ls l bs rs = true) (h2 : T.length ≤ 40) (h3 : ∀ k, k < T.length → trP ls bs T k = true) : goodT ls l bs rs T = true := by
  unfold goodT
  rw [Bool.and_eq_true, Bool.and_eq_true, decide_eq_true_eq, List.all_eq_true]
  exact ⟨⟨h1, h2⟩, fun k hk => h3 k (List.mem_range.1 hk)⟩
theorem goodT_not {ls : List (List Int)} {l : List Int} {bs : List Bool} {rs : List (List OpT)} {T : List TrT} {k : Nat} (hk : k < T.length) (h : trP ls bs T k = false) : goodT ls l bs rs T = false := by
  rw [Bool.eq_false_iff]; intro hc
  have := (goodT_parts hc).2.2 k hk
  rw [h] at this; cases this
theorem goodT_all {ls : List (List Int)} {l : List Int} {bs : List Bool} {rs : List (List OpT)} {T : List TrT} (h : goodT ls l bs rs T = true) : ∀ t ∈ T, traceA ls bs t = true := by
  intro t ht
  obtain ⟨k, hk, rfl⟩ := List.getElem_of_mem ht
  have := (goodT_parts h).2.2 k hk
  rw [trP_at hk, Bool.and_eq_true] at this
  exact this.1
/-- What is known of inputs. -/
theorem insOk_parts {ls : List (List Int)} {bs : List Bool} {t : Int} {ins : List (List UInt8)} (h : insOk ls bs t ins = true) :
    0 ≤ t ∧ t < (ls.length : Int) ∧ bs.getD t.toNat false = false ∧ ins.length = (ls.getD t.toNat []).length ∧ textsL ins = true := by
  unfold insOk at h
  simp only [Bool.and_eq_true, decide_eq_true_eq, Bool.not_eq_true'] at h
  exact ⟨h.1.1.1.1, h.1.1.1.2, h.1.1.2, h.1.2, h.2⟩
theorem texts_parts {l : List (List UInt8)} (h : textsL l = true) : (∀ x ∈ l, x.length ≤ 40) ∧ l.length ≤ 10 := by
  unfold textsL at h
  rw [Bool.and_eq_true, decide_eq_true_eq, List.all_eq_true] at h
  exact ⟨fun x hx => by have := h.1 x hx; rwa [decide_eq_true_eq] at this, h.2⟩
theorem traceA_parts {ls : List (List Int)} {bs : List Bool} {t : TrT} (h : traceA ls bs t = true) : insOk ls bs t.1 t.2.1 = true ∧ resOk t.2.2 = true ∧ t.2.2.2 ≠ 2 := by
  unfold traceA at h
  rw [Bool.and_eq_true, Bool.and_eq_true, decide_eq_true_eq] at h
  exact ⟨h.1.1, h.1.2, h.2⟩
theorem resOk_len {r : ResT} (h : resOk r = true) : r.1.length ≤ 40 := by
  unfold resOk at h
  simp only [Bool.and_eq_true, decide_eq_true_eq] at h
  exact h.1.2
/-- Traces whose texts are short. -/
def ShortT (T : List TrT) : Prop := ∀ t ∈ T, (∀ x ∈ t.2.1, x.length ≤ 40) ∧ t.2.1.length ≤ 10 ∧ t.2.2.1.length ≤ 40
theorem short_of {ls : List (List Int)} {bs : List Bool} {T : List TrT} (h : ∀ t ∈ T, traceA ls bs t = true) : ShortT T := fun t ht => by
  obtain ⟨h1, h2, _⟩ := traceA_parts (h t ht)
  obtain ⟨_, _, _, _, h3⟩ := insOk_parts h1
  exact ⟨(texts_parts h3).1, (texts_parts h3).2, resOk_len h2⟩
/-- All of one task have as many inputs as these. -/
def SameLen (T : List TrT) (t : Int) (n : Nat) : Prop := ∀ x ∈ T, x.2.1.length ≤ 10 ∧ (x.1 = t → x.2.1.length = n)
theorem same_of {ls : List (List Int)} {bs : List Bool} {T : List TrT} (h : ∀ t ∈ T, traceA ls bs t = true) {t : Int} {ins : List (List UInt8)} (hi : insOk ls bs t ins = true) : SameLen T t ins.length := fun x hx => by
  obtain ⟨h1, _⟩ := traceA_parts (h x hx)
  obtain ⟨_, _, _, h4, h3⟩ := insOk_parts h1
  refine ⟨(texts_parts h3).2, fun e => ?_⟩
  rw [h4, e, (insOk_parts hi).2.2.2.1]
/-- What is found. -/
def foundT (T : List TrT) (t : Int) (ins : List (List UInt8)) : Option ResT := (findT T t ins).map (fun k => (T.getD k noTr).2.2)
noncomputable def foundA (ls : List (List Int)) (l : List Int) (bs : List Bool) (rs : List (List OpT)) (T : List TrT) (t : Int) (ins : List (List UInt8)) : Option ResT :=
  if goodT ls l bs rs T && insOk ls bs t ins then foundT T t ins else none
def resO (x : Option ResT) : ResT := match x with | some r => r | none => noRes
/-- One more that is noted. -/
def noteL (T : List TrT) (t : TrT) : List TrT := match findT T t.1 t.2.1 with | some k => T.set k t | none => (T ++ [t]).drop (T.length + 1 - 40)
theorem note_put {T : List TrT} {t : TrT} {k : Nat} (h : findT T t.1 t.2.1 = some k) : noteL T t = T.set k t := by unfold noteL; rw [h]
theorem note_new {T : List TrT} {t : TrT} (h : findT T t.1 t.2.1 = none) : noteL T t = (T ++ [t]).drop (T.length + 1 - 40) := by unfold noteL; rw [h]
theorem note_mem {T : List TrT} {t x : TrT} (h : x ∈ noteL T t) : x ∈ T ∨ x = t := by
  unfold noteL at h
  split at h
  · exact List.mem_or_eq_of_mem_set h
  · have := List.mem_of_mem_drop h
    simpa using this
theorem note_len {T : List TrT} {t : TrT} (h : T.length ≤ 40) : (noteL T t).length ≤ 40 := by
  unfold noteL
  split
  · simpa using h
  · simp; omega
noncomputable def noteA (ls : List (List Int)) (l : List Int) (bs : List Bool) (rs : List (List OpT)) (T : List TrT) (t : TrT) : List TrT := if goodT ls l bs rs T && traceA ls bs t then noteL T t else []
/-- How many are of a task. -/
def forL (T : List TrT) (t : Int) : Nat := (T.filter (fun x => decide (x.1 = t))).length
theorem forL_le (T : List TrT) (t : Int) : forL T t ≤ T.length := List.length_filter_le _ _
theorem for_next {T : List TrT} {t : Int} {k : Nat} (hk : k < T.length) : forL (T.take (k + 1)) t = forL (T.take k) t + (if T[k].1 = t then 1 else 0) := by
  unfold forL
  rw [List.take_succ_eq_append_getElem hk, List.filter_append, List.length_append, List.filter_cons]
  by_cases h : T[k].1 = t <;> simp [h]
noncomputable def forA (ls : List (List Int)) (l : List Int) (bs : List Bool) (rs : List (List OpT)) (T : List TrT) (t : Int) : Bool := goodT ls l bs rs T && decide (0 ≤ t) && decide (t < (ls.length : Int))
/-- What a recipe makes of inputs. -/
def outM (rs : List (List OpT)) (t : Nat) (ins : List (List UInt8)) : ResT := madeR false (Pth.runT ins (rs.getD t []) []).isSome (txtO (Pth.runT ins (rs.getD t []) []))
def trueP (rs : List (List OpT)) (t : TrT) : Bool := decide (outM rs t.1.toNat t.2.1 = t.2.2)
/-- A build with traces, a task further. -/
def tracedS (ls : List (List Int)) (bs : List Bool) (rs : List (List OpT)) (ts : List (List UInt8)) (s : List ResT × List TrT × Nat) (k : Nat) : List ResT × List TrT × Nat :=
  if bs.getD k false then (s.1.set k (ts.getD k [], 0), s.2.1, s.2.2)
  else if (firstL s.1 (ls.getD k [])).2 then (s.1.set k ([], 2), s.2.1, s.2.2)
  else match foundT s.2.1 (k : Int) (bodiesL s.1 (ls.getD k [])) with
    | some r => (s.1.set k r, s.2.1, s.2.2)
    | none => (s.1.set k (makeM ls rs s.1 k), noteL s.2.1 ((k : Int), bodiesL s.1 (ls.getD k []), makeM ls rs s.1 k), s.2.2 + 1)
def tracedL (ls : List (List Int)) (bs : List Bool) (rs : List (List OpT)) (ts : List (List UInt8)) : List Int → List ResT × List TrT × Nat → List ResT × List TrT × Nat
  | [], s => s
  | k :: r, s => tracedL ls bs rs ts r (tracedS ls bs rs ts s k.toNat)
theorem traced_append (ls : List (List Int)) (bs : List Bool) (rs : List (List OpT)) (ts : List (List UInt8)) (a b : List Int) (s : List ResT × List TrT × Nat) : tracedL ls bs rs ts (a ++ b) s = tracedL ls bs rs ts b (tracedL ls bs rs ts a s) := by
  induction a generalizing s with
  | nil => rfl
  | cons k t ih => simp only [List.cons_append, tracedL]; exact ih _
theorem traced_next (ls : List (List Int)) (bs : List Bool) (rs : List (List OpT)) (ts : List (List UInt8)) {l : List Int} {k : Nat} (hk : k < l.length) (s : List ResT × List TrT × Nat) :
    tracedL ls bs rs ts (l.take (k + 1)) s = tracedS ls bs rs ts (tracedL ls bs rs ts (l.take k) s) l[k].toNat := by
  rw [List.take_succ_eq_append_getElem hk, traced_append]; rfl
/-- What holds on the way. -/
structure OnWay (ls : List (List Int)) (bs : List Bool) (s : List ResT × List TrT × Nat) : Prop where
  len : s.1.length = bs.length
  sml : Sml s.1
  all : ∀ t ∈ s.2.1, traceA ls bs t = true
  few : s.2.1.length ≤ 40
theorem makeM_ok (ls : List (List Int)) (rs : List (List OpT)) (m : List ResT) (k : Nat) (hb : (firstL m (ls.getD k [])).2 = false) : resOk (makeM ls rs m k) = true ∧ (makeM ls rs m k).2 ≠ 2 := by
  have hlen := makeM_len ls rs m k
  unfold makeM madeR at hlen ⊢
  rw [hb] at hlen ⊢
  simp only [Bool.false_eq_true, if_false] at hlen ⊢
  split
  · rename_i h; rw [if_pos h] at hlen; unfold resOk; simp at hlen ⊢; exact hlen
  · unfold resOk; simp
theorem foundT_ok {ls : List (List Int)} {bs : List Bool} {T : List TrT} (h : ∀ t ∈ T, traceA ls bs t = true) {t : Int} {ins : List (List UInt8)} {r : ResT} (hf : foundT T t ins = some r) : r.1.length ≤ 40 := by
  unfold foundT at hf
  rw [Option.map_eq_some_iff] at hf
  obtain ⟨k, h1, rfl⟩ := hf
  have hk := findT_lt h1
  rw [getD_at _ hk]
  exact resOk_len (traceA_parts (h _ (List.getElem_mem hk))).2.1
theorem bodies_texts {m : List ResT} (h : Sml m) {ns : List Int} (hn : ns.length ≤ 10) : textsL (bodiesL m ns) = true := by
  unfold textsL
  rw [Bool.and_eq_true, decide_eq_true_eq, bodies_len]
  refine ⟨List.all_eq_true.2 fun x hx => ?_, hn⟩
  rw [decide_eq_true_eq]
  obtain ⟨k, _, rfl⟩ := List.mem_map.1 hx
  unfold resAt
  rcases Nat.lt_or_ge k.toNat m.length with h1 | h1
  · rw [getD_at _ h1]; exact h _ (List.getElem_mem h1)
  · rw [List.getD_eq_getElem?_getD, List.getElem?_eq_none h1]; simp [noRes]
theorem new_trace {ls : List (List Int)} {l : List Int} {bs : List Bool} {rs : List (List OpT)} (hp : planA ls l bs rs = true) {m : List ResT} (hm : Sml m) {k : Nat} (hk : k < ls.length) (hs : bs.getD k false = false) (hb : (firstL m (ls.getD k [])).2 = false) :
    traceA ls bs ((k : Int), bodiesL m (ls.getD k []), makeM ls rs m k) = true := by
  obtain ⟨h1, h2⟩ := makeM_ok ls rs m k hb
  have h10 := (plan_task hp hk).1
  have ht : textsL (bodiesL m (ls.getD k [])) = true := by rw [getD_at _ hk]; exact bodies_texts hm (by omega)
  unfold traceA insOk
  simp only [Bool.and_eq_true, decide_eq_true_eq, Bool.not_eq_true', Int.toNat_natCast]
  exact ⟨⟨⟨⟨⟨⟨by omega, by omega⟩, hs⟩, by simp [bodiesL]⟩, ht⟩, h1⟩, h2⟩
theorem traced_on {ls : List (List Int)} {l : List Int} {bs : List Bool} {rs : List (List OpT)} {ts : List (List UInt8)} (hp : planA ls l bs rs = true) (ht : ∀ x ∈ ts, x.length ≤ 40) {s : List ResT × List TrT × Nat} (h : OnWay ls bs s) {k : Nat} (hk : k < ls.length) :
    OnWay ls bs (tracedS ls bs rs ts s k) := by
  obtain ⟨h1, h2, h3, h4⟩ := h
  unfold tracedS
  split
  · refine ⟨by simpa using h1, h2.set ?_ _, h3, h4⟩
    simp only
    rcases Nat.lt_or_ge k ts.length with h | h
    · rw [getD_at _ h]; exact ht _ (List.getElem_mem h)
    · rw [List.getD_eq_getElem?_getD, List.getElem?_eq_none h]; simp
  · rename_i hs
    split
    · exact ⟨by simpa using h1, h2.set (by simp) _, h3, h4⟩
    · rename_i hb
      split
      · rename_i r hf
        exact ⟨by simpa using h1, h2.set (foundT_ok h3 hf) _, h3, h4⟩
      · refine ⟨by simpa using h1, h2.set (makeM_len _ _ _ _) _, fun t hm => ?_, note_len h4⟩
        rcases note_mem hm with h | h
        · exact h3 t h
        · rw [h]; exact new_trace hp h2 hk (by simpa using hs) (by simpa using hb)
theorem traced_way {ls : List (List Int)} {l : List Int} {bs : List Bool} {rs : List (List OpT)} {ts : List (List UInt8)} (hp : planA ls l bs rs = true) (ht : ∀ x ∈ ts, x.length ≤ 40) (o : List Int) (ho : ∀ k ∈ o, k.toNat < ls.length) {s : List ResT × List TrT × Nat} (h : OnWay ls bs s) : OnWay ls bs (tracedL ls bs rs ts o s) := by
  induction o generalizing s with
  | nil => exact h
  | cons k t ih => exact ih (fun j hj => ho j (List.mem_cons_of_mem _ hj)) (traced_on hp ht h (ho k (List.mem_cons_self ..)))
theorem traced_runs {ls : List (List Int)} {bs : List Bool} {rs : List (List OpT)} {ts : List (List UInt8)} (o : List Int) (s : List ResT × List TrT × Nat) : (tracedL ls bs rs ts o s).2.2 ≤ s.2.2 + o.length := by
  induction o generalizing s with
  | nil => exact Nat.le_refl _
  | cons k t ih =>
    refine Nat.le_trans (ih _) ?_
    have : (tracedS ls bs rs ts s k.toNat).2.2 ≤ s.2.2 + 1 := by
      unfold tracedS
      split
      · simp
      · split
        · simp
        · split <;> simp
    simp only [List.length_cons]; omega
/-- What a build with traces comes to. -/
def tracedM (ls : List (List Int)) (l : List Int) (bs : List Bool) (rs : List (List OpT)) (T : List TrT) (ts : List (List UInt8)) : List ResT × List TrT × Nat := tracedL ls bs rs ts l (List.replicate bs.length noRes, T, 0)
noncomputable def tracedA (ls : List (List Int)) (l : List Int) (bs : List Bool) (rs : List (List OpT)) (T : List TrT) (ts : List (List UInt8)) : List ResT × List TrT × Nat :=
  if goodT ls l bs rs T && srcA ls l bs rs ts then tracedM ls l bs rs T ts else ([], [], 0)
theorem onWay_start {ls : List (List Int)} {l : List Int} {bs : List Bool} {rs : List (List OpT)} {T : List TrT} (h : goodT ls l bs rs T = true) : OnWay ls bs (List.replicate bs.length noRes, T, 0) :=
  ⟨by simp, sml_none _, goodT_all h, (goodT_parts h).2.1⟩
end Go.Proofs.YtgolhfmmlanmlaaGreatDoor

/- Walks: the laws' marks in ops. -/
namespace Go.Proofs.YtgolhfmmlanmlaaGreatDoor
open Go.RowKit Pth

/-- The ops that are marks, from k on. -/
def marksO (k : Nat) (n : Nat) : List OpT := (List.range n).map (fun (i : Nat) => (((k + i * 3 : Nat) : Int), ((k + i * 3 + 1 : Nat) : Int), markT (k + i * 3 + 2)))
theorem marksO_len (k n : Nat) : (marksO k n).length = n := by simp [marksO]
theorem marksO_snoc (k n : Nat) : marksO k (n + 1) = marksO k n ++ [(((k + n * 3 : Nat) : Int), ((k + n * 3 + 1 : Nat) : Int), markT (k + n * 3 + 2))] := by simp [marksO, List.range_succ]
theorem set_kindO (a : List OpT) (k : Nat) (ha : a.length = k) (x p q : Int) (t : List UInt8) (rest : List OpT) :
    (OC a ++ OC ((p, q, t) :: rest)).set (k * 3) (.int .i64 x) = OC a ++ OC ((x, q, t) :: rest) := by
  have hl : (OC a).length = k * 3 := by rw [OC_len, ha]
  rw [List.set_append_right _ _ (by omega), hl, Nat.sub_self]
  rfl
theorem set_numO (a : List OpT) (k : Nat) (ha : a.length = k) (x p q : Int) (t : List UInt8) (rest : List OpT) :
    (OC a ++ OC ((p, q, t) :: rest)).set (k * 3 + 1) (.int .i64 x) = OC a ++ OC ((p, x, t) :: rest) := by
  have hl : (OC a).length = k * 3 := by rw [OC_len, ha]
  rw [List.set_append_right _ _ (by omega), hl, show k * 3 + 1 - k * 3 = 1 by omega]
  rfl
theorem set_textO (a : List OpT) (k : Nat) (ha : a.length = k) (p q : Int) (x t : List UInt8) (rest : List OpT) :
    (OC a ++ OC ((p, q, t) :: rest)).set (k * 3 + 2) (.string ⟨x.toArray⟩) = OC (a ++ [(p, q, x)]) ++ OC rest := by
  have hl : (OC a).length = k * 3 := by rw [OC_len, ha]
  rw [List.set_append_right _ _ (by omega), hl, show k * 3 + 2 - k * 3 = 2 by omega, OC_append]
  simp [OC, opC]
theorem mark_l (j : Nat) (i : Int) (h : (j : Int) = i) (hk1 : j ≤ 8000000) (h1 : 1 ≤ j) (w : World) : Calls Tryz.prog 60 #[.int .i64 i] w fun e w' => e = .returned (.string ⟨(markT j).toArray⟩) ∧ Below w.heap.size w w' := by
  subst h
  exact markText_any j w hk1 h1

/-- The ops hold the marks, and nothing but their own block has turned. -/
def MarkedO (v : Value) (k : Nat) (n : Nat) (w : World) (e : Ending) (w' : World) : Prop :=
  e = .returned (.int .i64 ((k : Int) + (n : Int) * 3)) ∧ w.grownBy w' v.ownBlock

set_option maxRecDepth 20000 in
set_option maxHeartbeats 1000000 in
theorem markOpS_any (l : List OpT) (k : Nat) (B : Nat) (v : Value) (w : World) (hown : w.ownsRow B 141 3 v l.length (OC l)) (hl : l.length ≤ 1100000) (hk : k ≤ 4000000) (hk1 : 1 ≤ k) :
    Calls Tryz.prog 94 #[v, .int .i64 (k : Int)] w (MarkedO v k l.length w) := by
  have HW := Lib.hid hown
  obtain ⟨a, cap, rfl⟩ := own_sliceG hown
  clear hown
  go_enter Tryz.func94, Tryz.ntmps94
  go_wp2_with fail
  go_loopw [1, 5] (fun q i wr => ∃ j : Nat, j ≤ l.length ∧ q = .int .i64 ((k : Int) + (j : Int) * 3) ∧ i = .int .i64 j ∧ wr.ownsRow B 141 3 (.slice a l.length cap) l.length (OC (marksO k j) ++ OC (l.drop j)) ∧ w.grownBy wr (Value.slice a l.length cap).ownBlock) (fun _ i _ => l.length - (intOf i).toNat)
  case atStart => exact ⟨0, Nat.zero_le _, by simp, rfl, HW.out, grown_refl _ _⟩
  case round =>
    clear HW
    obtain ⟨j, hj, rfl, rfl, hown, hg⟩ := hrel
    by_cases hlt : j < l.length
    · obtain ⟨g, c2, hv⟩ : ∃ g c2, (Value.slice a l.length cap) = .slice (some ⟨g, 0, none⟩) l.length c2 := by
        rcases hown.2 with ⟨_, h0⟩ | ⟨g, c2, cur, hv, _⟩
        · omega
        · exact ⟨g, c2, hv⟩
      injection hv with hv1 hv2 hv3
      subst hv1
      have hc4 : l.length ≤ cap := by
        rcases hown.2 with ⟨_, h0⟩ | ⟨g, c2, cur, hv, _, _, h5, _⟩
        · omega
        · injection hv with _ _ hv3; omega
      have HC := Lib.hid (fun W => mark_l (k + j * 3 + 2) ((k : Int) + (j : Int) * 3 + 1 + 1) (by omega) (by omega) (by omega) W)
      rw [List.drop_eq_getElem_cons hlt, show l[j] = (l[j].1, l[j].2.1, l[j].2.2) from rfl] at hown
      have HE := Lib.hid (marksO_snoc k j)
      rw [show (((k + j * 3 : Nat) : Int)) = (k : Int) + (j : Int) * 3 by omega, show (((k + j * 3 + 1 : Nat) : Int)) = (k : Int) + (j : Int) * 3 + 1 by omega] at HE
      have ha := marksO_len k j
      have HG := Lib.hid hg
      have hfz := hown.frozenAt (j * 3)
      have hcz : wr.cell? ⟨g, j * 3, none⟩ = some (.int .i64 l[j].1) := by rw [hown.cellAt (j * 3) (by omega), (get_three (marksO k j) j ha _ _).1]
      have hst := hown.stored (j * 3) (.int .i64 ((k : Int) + (j : Int) * 3))
      rw [set_kindO (marksO k j) j ha] at hst
      have hfz1 := hst.1.frozenAt (j * 3 + 1)
      have hcz1 : (wr.setCell ⟨g, j * 3, none⟩ (.int .i64 ((k : Int) + (j : Int) * 3))).cell? ⟨g, j * 3 + 1, none⟩ = some (.int .i64 l[j].2.1) := by rw [hst.1.cellAt (j * 3 + 1) (by omega), (get_three (marksO k j) j ha _ _).2.1]
      have hst1 := hst.1.stored (j * 3 + 1) (.int .i64 ((k : Int) + (j : Int) * 3 + 1))
      rw [set_numO (marksO k j) j ha] at hst1
      have HN := Lib.hid hst1.1
      have HG1 := Lib.hid (grown_trans (grown_trans HG.out hst.2) hst1.2)
      clear hown hg hv2 hv3 hst hst1 HG
      generalize l[j].1 = p at hcz
      generalize l[j].2.1 = q at hcz1
      generalize l[j].2.2 = t at HN
      generalize markT (k + j * 3 + 2) = x at HC HE
      go_wp2_with fail
      generalize (wr.setCell ⟨g, j * 3, none⟩ (.int .i64 ((k : Int) + (j : Int) * 3))).setCell ⟨g, j * 3 + 1, none⟩ (.int .i64 ((k : Int) + (j : Int) * 3 + 1)) = w2 at HN HG1
      refine (HC.out _).mono ?_
      rintro e w3 ⟨rfl, hb3⟩
      have HN3 := Lib.hid (own_belowG HN.out hb3)
      have hfz2 := HN3.out.frozenAt (j * 3 + 2)
      have hcz2 : w3.cell? ⟨g, j * 3 + 2, none⟩ = some (.string ⟨t.toArray⟩) := by rw [HN3.out.cellAt (j * 3 + 2) (by omega), (get_three (marksO k j) j ha _ _).2.2]
      have hst := HN3.out.stored (j * 3 + 2) (.string ⟨x.toArray⟩)
      rw [set_textO (marksO k j) j ha, ← HE.out] at hst
      have HN4 := Lib.hid hst.1
      have HG4 := Lib.hid (grown_trans (grown_trans HG1.out (below_grown hb3)) hst.2)
      clear hst hb3 HN HN3 HG1 hcz hfz hcz1 hfz1 ha
      go_wp2_with fail
      go_roundw
      case rel => exact ⟨j + 1, by omega, by go_num, by go_num, HN4.out, HG4.out⟩
      case measure => simp [intOf]; omega
    · obtain rfl : j = l.length := by omega
      have HG := Lib.hid hg
      clear hown hg
      go_wp2_with fail
      go_ret
      exact ⟨rfl, HG.out⟩

end Go.Proofs.YtgolhfmmlanmlaaGreatDoor

/- Walks: the laws' marks in graphs, and whether they are held. -/
namespace Go.Proofs.YtgolhfmmlanmlaaGreatDoor
open Go.RowKit Pth

/-- The marks from k on, in lists. -/
def marksL : Nat → List (List Int) → List (List Int)
  | _, [] => []
  | k, l :: t => marks k l.length :: marksL (k + l.length) t
theorem marksL_len (k : Nat) (ls : List (List Int)) : (marksL k ls).length = ls.length := by
  induction ls generalizing k with
  | nil => rfl
  | cons l t ih => rw [marksL, List.length_cons, List.length_cons, ih]
theorem marksL_snoc (k : Nat) (ls : List (List Int)) (l : List Int) : marksL k (ls ++ [l]) = marksL k ls ++ [marks ((k + total ls : Nat) : Int) l.length] := by
  induction ls generalizing k with
  | nil => simp [marksL, total]
  | cons x t ih =>
    rw [List.cons_append, marksL, marksL, ih, List.cons_append]
    have : k + x.length + total t = k + total (x :: t) := by simp [total]; omega
    rw [this]
theorem marksL_next {k : Nat} {ls : List (List Int)} {j : Nat} (hj : j < ls.length) : marksL k (ls.take (j + 1)) = marksL k (ls.take j) ++ [marks ((k + total (ls.take j) : Nat) : Int) ls[j].length] := by
  rw [List.take_succ_eq_append_getElem hj, marksL_snoc]
theorem marksL_total (k : Nat) (ls : List (List Int)) : total (marksL k ls) = total ls := by
  induction ls generalizing k with
  | nil => rfl
  | cons x t ih => have := ih (k + x.length); simp only [total, marksL, List.map_cons, List.sum_cons, marks_len] at this ⊢; omega
theorem marksL_at {k : Nat} {ls : List (List Int)} {j : Nat} (hj : j < ls.length) : (marksL k ls)[j]'(by rw [marksL_len]; exact hj) = marks ((k + total (ls.take j) : Nat) : Int) ls[j].length := by
  induction ls generalizing k j with
  | nil => simp at hj
  | cons x t ih =>
    cases j with
    | zero => simp [marksL, total]
    | succ j =>
      simp only [marksL, List.getElem_cons_succ]
      rw [ih (by simpa using hj)]
      have : k + x.length + total (t.take j) = k + total ((x :: t).take (j + 1)) := by simp [total]; omega
      rw [this]

theorem zip_split {sl : List Value} {M ls : List (List Int)} {j : Nat} (hs : sl.length = ls.length) (hM : M.length = j) (hj : j < ls.length) :
    sl.zip (M ++ ls.drop j) = (sl.take j).zip M ++ (sl[j]'(by omega), ls[j]) :: (sl.drop (j + 1)).zip (ls.drop (j + 1)) := by
  have e : sl = sl.take j ++ sl[j]'(by omega) :: sl.drop (j + 1) := by rw [← List.drop_eq_getElem_cons (by omega), List.take_append_drop]
  conv => lhs; rw [e, List.drop_eq_getElem_cons hj]
  rw [List.zip_append (by rw [List.length_take]; omega), List.zip_cons_cons]
theorem zip_join {sl : List Value} {M ls : List (List Int)} {j : Nat} {x : List Int} (hs : sl.length = ls.length) (hM : M.length = j) (hj : j < ls.length) :
    (sl.take j).zip M ++ (sl[j]'(by omega), x) :: (sl.drop (j + 1)).zip (ls.drop (j + 1)) = sl.zip ((M ++ [x]) ++ ls.drop (j + 1)) := by
  have e : sl = sl.take j ++ sl[j]'(by omega) :: sl.drop (j + 1) := by rw [← List.drop_eq_getElem_cons (by omega), List.take_append_drop]
  conv => rhs; rw [e]
  rw [List.append_assoc, List.zip_append (by rw [List.length_take]; omega), List.singleton_append, List.zip_cons_cons]
/-- A list of another type stays. -/
theorem own_grownL {w w' : World} {B B' e n : Nat} {v : Value} {xs : List Value} {L : List (Value × List Int)} (h : w.ownsRow B e 1 v n xs) (he : e ≠ 3) (hl : Lists B' w L) (hg : GrownL w w' L) : w'.ownsRow B e 1 v n xs := by
  refine ⟨h.1, ?_⟩
  rcases h.2 with h0 | ⟨g, cap, cur, hv, hB, hh, r⟩
  · exact .inl h0
  · refine .inr ⟨g, cap, cur, hv, hB, (hg.block g (lt_of_block hh) (fun p hp hi => own_typesI h (hl.1 p hp) he g (by rw [hv]; rfl) hi)).trans hh, r⟩

theorem markIntS_l {l : List Int} {k B : Nat} {i r : Int} {v : Value} {w : World} (hi : (k : Int) = i) (hr : r = (k : Int) + (l.length : Int)) (hown : w.ownsRow B 3 1 v l.length (I l)) (hl : l.length ≤ 2000000) (hk : k ≤ 2000000) :
    Calls Tryz.prog 29 #[v, .int .i64 i] w fun e w' => e = .returned (.int .i64 r) ∧ w'.ownsRow B 3 1 v l.length (I (marks (k : Int) l.length)) ∧ w.grownBy w' v.ownBlock := by
  subst hi hr
  exact markIntS_any l k B v w hown hl hk
theorem heldIntS_l {k n : Nat} {i r : Int} {v : Value} {w : World} (hi : (k : Int) = i) (hr : r = (k : Int) + (n : Int)) (hrow : RowV w v (I (marks (k : Int) n))) (hn : n ≤ 2000000) (hk : k ≤ 2000000) :
    Calls Tryz.prog 30 #[v, .int .i64 i] w fun e w' => e = .returned (.int .i64 r) ∧ Below w.heap.size w w' := by
  subst hi hr
  exact heldIntS_any k n v w hrow hn hk

/-- The lists hold the marks, and nothing but their blocks has turned. -/
def MarkedN (B : Nat) (sl : List Value) (ls : List (List Int)) (R : List (Value × List Int)) (k : Nat) (w : World) (e : Ending) (w' : World) : Prop :=
  e = .returned (.int .i64 ((k + total ls : Nat) : Int)) ∧ Lists B w' (sl.zip (marksL k ls) ++ R) ∧ GrownL w w' (sl.zip ls)

set_option maxHeartbeats 2000000 in
theorem markIntSS_any (ls : List (List Int)) (R : List (Value × List Int)) (k B B' : Nat) (v : Value) (sl : List Value) (w : World) (hs : sl.length = ls.length) (hout : w.ownsRow B' 23 1 v ls.length sl) (hL : Lists B w (sl.zip ls ++ R)) (hl : ls.length + total ls ≤ 1500000) (hk : k ≤ 100000) :
    Calls Tryz.prog 93 #[v, .int .i64 (k : Int)] w (MarkedN B sl ls R k w) := by
  have HW := Lib.hid hL
  have HU := Lib.hid hout
  obtain ⟨a, cap, rfl⟩ := own_slice hout
  have hcap : ls.length ≤ cap ∧ cap ≤ maxLen := by obtain ⟨a', c', he, h1, h2, _⟩ := RowV.of_own hout; injection he with _ _ he; omega
  obtain ⟨hc1, hc2⟩ := hcap
  unfold maxLen at hc2
  clear hL hout
  go_enter Tryz.func93, Tryz.ntmps93
  go_wp2_with fail
  go_loopw [1, 5] (fun q i wr => ∃ j : Nat, j ≤ ls.length ∧ q = .int .i64 ((k + total (ls.take j) : Nat) : Int) ∧ i = .int .i64 j ∧ Lists B wr (sl.zip (marksL k (ls.take j) ++ ls.drop j) ++ R) ∧ GrownL w wr (sl.zip ls)) (fun _ i _ => ls.length - (intOf i).toNat)
  case atStart => exact ⟨0, Nat.zero_le _, by simp [total], rfl, by simpa [marksL] using HW.out, GrownL.refl _ _⟩
  case round =>
    obtain ⟨j, hj, rfl, rfl, hL, hg⟩ := hrel
    by_cases hlt : j < ls.length
    · have hout := own_grownL HU.out (by decide) HW.out.left hg
      have hsj : j < sl.length := by omega
      obtain ⟨a', c', he', _, _, hat⟩ := RowV.of_own hout
      injection he' with he1 he2 he3
      subst he1 he3
      obtain ⟨g, o, rfl, hgz, hcell⟩ := hat j hsj
      have hM : (marksL k (ls.take j)).length = j := by rw [marksL_len, List.length_take]; omega
      rw [zip_split hs hM hlt, List.append_assoc, List.cons_append] at hL
      have hone := hL.1 (sl[j], ls[j]) (by simp)
      have htl := total_at hlt
      have htk := total_le (ls := ls) (k := j)
      have HC := Lib.hid (markIntS_l (l := ls[j]) (k := k + total (ls.take j)) (i := ((k + total (ls.take j) : Nat) : Int)) (r := ((k + total (ls.take (j + 1)) : Nat) : Int)) rfl (by have := total_next hlt; omega) hone (by omega) (by omega))
      have HT : Hid (∀ w1, w1.ownsRow B 3 1 sl[j] ls[j].length (I (marks ((k + total (ls.take j) : Nat) : Int) ls[j].length)) → wr.grownBy w1 (sl[j]).ownBlock → Lists B w1 (sl.zip (marksL k (ls.take (j + 1)) ++ ls.drop (j + 1)) ++ R) ∧ GrownL w w1 (sl.zip ls)) := by
        intro w1 h1 h2
        refine ⟨?_, hg.one h2 (zip_get hsj hlt)⟩
        have := hL.turn (v' := sl[j]) (l' := marks ((k + total (ls.take j) : Nat) : Int) ls[j].length) h2 (by rw [marks_len]; exact h1) (fun b hb => .inl hb)
        rw [← List.cons_append, ← List.append_assoc, zip_join hs hM hlt, ← marksL_next hlt] at this
        exact this
      obtain ⟨a2, c2, hv2⟩ := own_slice hone
      have h63 : (k + total (ls.take (j + 1)) : Nat) ≤ 3000000 := by have := total_le (ls := ls) (k := j + 1); omega
      clear hL hone hat hg hout he2
      simp only at hv2
      generalize hsl : sl[j] = u at hcell HC HT hv2
      subst hv2
      generalize ls[j].length = n1 at *
      generalize k + total (ls.take j) = q0 at *
      generalize hq1 : k + total (ls.take (j + 1)) = q1 at *
      have HQ := Lib.hid hq1
      clear hsl hq1
      go_wp2_with fail
      refine HC.out.mono ?_
      rintro e w1 ⟨rfl, h1, h2⟩
      obtain ⟨h3, h4⟩ := HT.out w1 h1 h2
      have H3 := Lib.hid h3
      have H4 := Lib.hid h4
      clear h1 h2 h3 h4 HT HC
      go_wp2_with fail
      go_roundw
      case rel => exact ⟨j + 1, by omega, by rw [HQ.out], by go_num, H3.out, H4.out⟩
      case measure => simp [intOf]; omega
    · obtain rfl : j = ls.length := by omega
      rw [List.take_length, List.drop_length, List.append_nil] at hL
      rw [List.take_length]
      have HL := Lib.hid hL
      have HG := Lib.hid hg
      clear hL hg
      go_wp2_with fail
      go_ret
      exact ⟨rfl, HL.out, HG.out⟩

/-- Only blocks between two have turned. -/
structure OnlyIn (B C : Nat) (w w' : World) : Prop where
  below : Below B w w'
  above : ∀ i, C ≤ i → i < w.heap.size → w'.heap[i]? = w.heap[i]?
  kept : ∀ (i : Nat) (cs : Array Value) (e : Nat), e ≠ 3 → w.heap[i]? = some (Obj.cells cs e (0, 0)) → w'.heap[i]? = w.heap[i]?
theorem GraphO.only {B C D : Nat} {w w' : World} {v : Value} {ls : List (List Int)} {l : List Int} (h : GraphO D w v ls l) (hg : OnlyIn B C w w') (hD : C ≤ D) : GraphO D w' v ls l := by
  obtain ⟨nv, ov, sl, hv, h1, h2, h3⟩ := h
  have one : ∀ {e n : Nat} {x : Value} {xs : List Value}, w.ownsRow D e 1 x n xs → w'.ownsRow D e 1 x n xs := by
    intro e n x xs h
    refine ⟨h.1, ?_⟩
    rcases h.2 with h0 | ⟨g, cap, cur, hv, hB, hh, r⟩
    · exact .inl h0
    · exact .inr ⟨g, cap, cur, hv, hB, (hg.above g (by omega) (lt_of_block hh)).trans hh, r⟩
  exact ⟨nv, ov, sl, hv, h1, one h2, fun p hp => one (h3.1 p hp), h3.2⟩
theorem own_only {B C D e n : Nat} {w w' : World} {v : Value} {xs : List Value} (h : w.ownsRow D e 1 v n xs) (hg : OnlyIn B C w w') (hD : C ≤ D) : w'.ownsRow D e 1 v n xs := by
  refine ⟨h.1, ?_⟩
  rcases h.2 with h0 | ⟨g, cap, cur, hv, hB, hh, r⟩
  · exact .inl h0
  · exact .inr ⟨g, cap, cur, hv, hB, (hg.above g (by omega) (lt_of_block hh)).trans hh, r⟩
theorem Blk2.only {B C b t : Nat} {w w' : World} {x y : Value} (h : Blk2 w b t x y) (hg : OnlyIn B C w w') (hb : b < B ∨ C ≤ b) : Blk2 w' b t x y := by
  rcases hb with hb | hb
  · exact h.below hg.below hb
  · exact (hg.above b hb (lt_of_block h)).trans h

theorem Blk2.kept {B C b t : Nat} {w w' : World} {x y : Value} (h : Blk2 w b t x y) (hg : OnlyIn B C w w') (ht : t ≠ 3) : Blk2 w' b t x y := (hg.kept b _ t ht h).trans h
/-- How many numbers a graph has. -/
def totalG (ls : List (List Int)) (l : List Int) : Nat := total ls + l.length
theorem GrownL.more {w w1 : World} {L M : List (Value × List Int)} (h : GrownL w w1 L) (hs : ∀ p ∈ L, p ∈ M) : GrownL w w1 M :=
  ⟨h.os, h.tape, h.output, h.size, fun i hi hne => h.block i hi (fun p hp => hne p (hs p hp))⟩

set_option maxRecDepth 20000 in
set_option maxHeartbeats 4000000 in
theorem markGraph_any (ls : List (List Int)) (l : List Int) (k B : Nat) (v : Value) (w0 w : World) (h0 : GraphO B w0 v ls l) (hb0 : Below w0.heap.size w0 w) (hB : B ≤ w0.heap.size) (hl : ls.length + total ls + l.length ≤ 1500000) (hk : k ≤ 1000) :
    Calls Tryz.prog 57 #[v, .int .i64 (k : Int)] w fun e w' => e = .returned (.int .i64 ((k + totalG ls l : Nat) : Int)) ∧ GraphO B w' v (marksL k ls) (marks ((k + total ls : Nat) : Int) l.length) ∧ OnlyIn B w0.heap.size w w' := by
  obtain ⟨nv, ov, sl, rfl, hs, hn, hL⟩ := h0
  have hlt : ∀ p ∈ sl.zip ls ++ [(ov, l)], ∀ i, p.1.ownBlock = some i → B ≤ i ∧ i < w0.heap.size := fun p hp i hi => (hL.1 p hp).lt i hi
  have HLT := Lib.hid hlt
  have hnw := own_below hn hb0
  have hLw := hL.below hb0
  obtain ⟨an, cn, rfl⟩ := own_slice hn
  obtain ⟨ao, co, hov⟩ := own_slice (hL.1 (ov, l) (List.mem_append.2 (.inr (List.mem_singleton.2 rfl))))
  simp only at hov
  subst hov
  obtain ⟨wa, hwa⟩ : ∃ wa, wa = w.alloc (.cells #[.slice an ls.length cn, .slice ao l.length co] 39) := ⟨_, rfl⟩
  have P0 : Hid (Blk2 wa w.heap.size 39 (.slice an ls.length cn) (.slice ao l.length co)) := by rw [hwa]; exact Blk2.new
  have hAw : Below w.heap.size w wa := by rw [hwa]; exact (Below.refl w.heap.size w).alloc (Nat.le_refl _) _
  have HA := Lib.hid hAw
  have hsa : wa.heap.size = w.heap.size + 1 := by rw [hwa]; simp
  have hsw : w0.heap.size ≤ w.heap.size := hb0.size
  have HN := Lib.hid (own_below hnw hAw)
  have HL := Lib.hid (hLw.below hAw)
  have HWA := Lib.hid hwa
  have HC := Lib.hid (markIntSS_any ls [(.slice ao l.length co, l)] k B B _ sl wa hs HN.out HL.out (by omega) (by omega))
  have hpb : ∀ (L : List (Value × List Int)) (x y : World), GrownL x y L → (∀ p ∈ L, p ∈ sl.zip ls ++ [(.slice ao l.length co, l)]) → w.heap.size < x.heap.size → x.heap[w.heap.size]? = y.heap[w.heap.size]? := by
    intro L x y hg hm hx
    refine (hg.block w.heap.size hx (fun p hp hi => ?_)).symm
    have := (HLT.out p (hm p hp) _ hi).2
    omega
  have HPB := Lib.hid hpb
  clear hlt hnw hLw hn hL hAw hwa hpb hb0
  go_enter Tryz.func57, Tryz.ntmps57
  go_wp2_with fail
  rw [← HWA.out]
  refine HC.out.mono ?_
  rintro e w1 ⟨rfl, hL1, hg1⟩
  have hm1 : ∀ p ∈ sl.zip ls, p ∈ sl.zip ls ++ [(Value.slice ao l.length co, l)] := fun p hp => List.mem_append.2 (.inl hp)
  have P1 := Lib.hid (show Blk2 w1 w.heap.size 39 (.slice an ls.length cn) (.slice ao l.length co) from (HPB.out _ _ _ hg1 hm1 (by omega)).symm.trans P0.out)
  have hn1 := own_grownL HN.out (by decide) HL.out.left hg1
  have c1 := P1.out.cells.2
  have hone := hL1.1 (.slice ao l.length co, l) (List.mem_append.2 (.inr (List.mem_singleton.2 rfl)))
  have HC2 := Lib.hid (markIntS_l (l := l) (k := k + total ls) (i := ((k + total ls : Nat) : Int)) (r := ((k + totalG ls l : Nat) : Int)) rfl (by unfold totalG; omega) hone (by omega) (by omega))
  have HG1 := Lib.hid (hg1.more hm1)
  have HL1 := Lib.hid hL1
  have HN1 := Lib.hid hn1
  clear hL1 hg1 hn1 hone hm1 HC
  generalize hq : k + total ls = q at *
  have HQ := Lib.hid hq
  clear hq
  go_wp2_with fail
  refine HC2.out.mono ?_
  rintro e w2 ⟨rfl, ho2, hg2⟩
  have HF : Hid (GraphO B w2 (.agg #[.slice an ls.length cn, .slice ao l.length co]) (marksL k ls) (marks (q : Int) l.length) ∧ OnlyIn B w0.heap.size w w2) := by
    have hL2 := HL1.out.turn (L := sl.zip (marksL k ls)) (M := []) (v' := .slice ao l.length co) (l' := marks (q : Int) l.length) hg2 (by rw [marks_len]; exact ho2) (fun b hb => .inl hb)
    have hg := HG1.out.one hg2 (l := l) (List.mem_append.2 (.inr (List.mem_singleton.2 rfl)))
    have hml := marksL_len k ls
    refine ⟨⟨_, _, sl, rfl, by rw [hml]; exact hs, ?_, hL2⟩, ?_, fun i hi hiw => ?_, fun i cs e he hi => ?_⟩
    · rw [hml]
      exact own_apartI HN1.out hg2 (fun i hi hi' => own_typesI HN1.out (HL1.out.1 (.slice ao l.length co, l) (List.mem_append.2 (.inr (List.mem_singleton.2 rfl)))) (by decide) i hi' hi)
    · have := hg.below HL.out (by omega)
      exact HA.out.mono (by omega) |>.trans this
    · have h1 := hg.block i (by omega) (fun p hp hpi => by have := (HLT.out p hp i hpi).2; omega)
      exact h1.trans (HA.out.block i hiw)
    · have hiw := lt_of_block hi
      have hi' := (HA.out.block i hiw).trans hi
      have h1 := hg.block i (by omega) (fun p hp hpi => by
        rcases (HL.out.1 p hp).2 with ⟨hv, _⟩ | ⟨g, cap, cur, hv, _, hg', _⟩
        · rw [hv] at hpi; simp [Value.ownBlock] at hpi
        · rw [hv] at hpi
          simp only [Value.ownBlock, Option.some.injEq] at hpi
          subst hpi
          rw [hi'] at hg'
          simp at hg'
          exact he hg'.2)
      exact h1.trans (HA.out.block i hiw)
  clear ho2 hg2
  go_wp2_with fail
  go_ret
  exact ⟨rfl, by rw [HQ.out]; exact HF.out.1, HF.out.2⟩

end Go.Proofs.YtgolhfmmlanmlaaGreatDoor

/- Walks: the laws' marks in plans. -/
namespace Go.Proofs.YtgolhfmmlanmlaaGreatDoor
open Go.RowKit Pth

/-- Only blocks between two have turned, whatever they hold. -/
structure OnlyB (B C : Nat) (w w' : World) : Prop where
  below : Below B w w'
  above : ∀ i, C ≤ i → i < w.heap.size → w'.heap[i]? = w.heap[i]?
theorem OnlyB.trans {B C : Nat} {a b c : World} (h : OnlyB B C a b) (k : OnlyB B C b c) : OnlyB B C a c :=
  ⟨h.below.trans k.below, fun i hi hl => (k.above i hi (Nat.lt_of_lt_of_le hl h.below.size)).trans (h.above i hi hl)⟩
theorem OnlyB.of_below {B C : Nat} {w w' : World} (h : Below w.heap.size w w') (hB : B ≤ w.heap.size) : OnlyB B C w w' := ⟨h.mono hB, fun i _ hl => h.block i hl⟩
theorem OnlyB.of_only {B C : Nat} {w w' : World} (h : OnlyIn B C w w') : OnlyB B C w w' := ⟨h.below, h.above⟩
theorem OnlyB.of_grown {B C : Nat} {w w' : World} {r : Option Nat} (h : w.grownBy w' r) (hr : ∀ i, r = some i → B ≤ i ∧ i < C) (hB : B ≤ w.heap.size) : OnlyB B C w w' := by
  refine ⟨⟨h.os, h.tape, h.output, h.size, fun i hi => h.block i (by omega) (fun e => by have := (hr i e.symm).1; omega)⟩, fun i hi hl => h.block i hl (fun e => by have := (hr i e.symm).2; omega)⟩
theorem OnlyB.own {B C D e n z : Nat} {w w' : World} {v : Value} {xs : List Value} (hg : OnlyB B C w w') (h : w.ownsRow D e z v n xs) (hD : C ≤ D) : w'.ownsRow D e z v n xs := by
  refine ⟨h.1, ?_⟩
  rcases h.2 with h0 | ⟨g, cap, cur, hv, hB, hh, r⟩
  · exact .inl h0
  · exact .inr ⟨g, cap, cur, hv, hB, (hg.above g (by omega) (lt_of_block hh)).trans hh, r⟩
theorem OnlyB.blk4 {B C b t : Nat} {w w' : World} {x y z u : Value} (hg : OnlyB B C w w') (h : Blk4 w b t x y z u) (hb : C ≤ b) : Blk4 w' b t x y z u := (hg.above b hb (lt_of_block h)).trans h
theorem own_kept {B C D e n z : Nat} {w w' : World} {v : Value} {xs : List Value} (hg : OnlyIn B C w w') (he : e ≠ 3) (h : w.ownsRow D e z v n xs) : w'.ownsRow D e z v n xs := by
  refine ⟨h.1, ?_⟩
  rcases h.2 with h0 | ⟨g, cap, cur, hv, hB, hh, r⟩
  · exact .inl h0
  · exact .inr ⟨g, cap, cur, hv, hB, (hg.kept g _ e he hh).trans hh, r⟩

theorem BL_set (m : List Bool) (j : Nat) (b : Bool) : (BL m).set j (.bool b) = BL (m.set j b) := by simp [BL, List.map_set]

set_option maxRecDepth 20000 in
set_option maxHeartbeats 1000000 in
theorem markBoolS_any (l : List Bool) (k : Nat) (B : Nat) (v : Value) (w : World) (hown : w.ownsRow B 4 1 v l.length (BL l)) (hl : l.length ≤ 1100000) (hk : k ≤ 4000000) :
    Calls Tryz.prog 58 #[v, .int .i64 (k : Int)] w fun e w' => e = .returned (.int .i64 ((k + l.length : Nat) : Int)) ∧ w.grownBy w' v.ownBlock := by
  have HW := Lib.hid hown
  obtain ⟨a, cap, rfl⟩ := own_slice hown
  clear hown
  go_enter Tryz.func58, Tryz.ntmps58
  go_wp2_with fail
  go_loopw [1, 5] (fun q i wr => ∃ (j : Nat) (m : List Bool), j ≤ l.length ∧ m.length = l.length ∧ q = .int .i64 ((k + j : Nat) : Int) ∧ i = .int .i64 j ∧ wr.ownsRow B 4 1 (.slice a l.length cap) l.length (BL m) ∧ w.grownBy wr (Value.slice a l.length cap).ownBlock) (fun _ i _ => l.length - (intOf i).toNat)
  case atStart => exact ⟨0, l, Nat.zero_le _, rfl, rfl, rfl, HW.out, grown_refl _ _⟩
  case round =>
    clear HW
    obtain ⟨j, m, hj, hm, rfl, rfl, hown, hg⟩ := hrel
    have HM := Lib.hid hm
    by_cases hlt : j < l.length
    · obtain ⟨g, c2, hv⟩ : ∃ g c2, (Value.slice a l.length cap) = .slice (some ⟨g, 0, none⟩) l.length c2 := by
        rcases hown.2 with ⟨_, h0⟩ | ⟨g, c2, cur, hv, _⟩
        · omega
        · exact ⟨g, c2, hv⟩
      injection hv with hv1 hv2 hv3
      subst hv1
      have hc4 : l.length ≤ cap := by
        rcases hown.2 with ⟨_, h0⟩ | ⟨g, c2, cur, hv, _, _, h5, _⟩
        · omega
        · injection hv with _ _ hv3; omega
      have hfz := hown.frozenAt j
      have hcz : wr.cell? ⟨g, j, none⟩ = some (.bool (m[j]'(by omega))) := by
        rw [hown.cellAt j (by omega)]
        rw [List.getElem?_eq_getElem (by rw [BL_len]; omega), BL_get (by omega)]
      have HST := Lib.hid (fun b => hown.stored j (.bool b))
      have HG := Lib.hid hg
      generalize m[j]'(by omega) = y at hcz
      have HKJ := Lib.hid (show ((k + (j + 1) : Nat) : Int) = ((k + j : Nat) : Int) + 1 by omega)
      generalize hkj : k + j = kj at *
      have hkj2 : kj ≤ 5200000 := by omega
      clear hown hg hv2 hv3 hm
      clear hkj
      go_wp2_with fail
      go_roundw
      case rel => exact ⟨j + 1, m.set j ((kj : Int) % 3 == 0), by omega, by rw [List.length_set]; exact HM.out, by rw [HKJ.out], by go_num, by rw [← BL_set]; exact (HST.out _).1, grown_trans HG.out (HST.out _).2⟩
      case measure => simp [intOf]; omega
    · obtain rfl : j = l.length := by omega
      have HG := Lib.hid hg
      clear hown hg hm
      go_wp2_with fail
      go_ret
      exact ⟨rfl, HG.out⟩

theorem totalO3 {rs : List (List OpT)} {j : Nat} (hj : j < rs.length) (k : Nat) : ((k + 3 * totalO (rs.take (j + 1)) : Nat) : Int) = ((k + 3 * totalO (rs.take j) : Nat) : Int) + (rs[j].length : Int) * 3 := by
  rw [totalO_next hj]; omega

set_option maxRecDepth 20000 in
set_option maxHeartbeats 2000000 in
theorem markOpSS_any (rs : List (List OpT)) (k B C : Nat) (v : Value) (sl : List Value) (w : World) (hown : OwnOO B w v sl rs) (hC : ∀ p ∈ sl.zip rs, ∀ b, p.1.ownBlock = some b → b < C) (hB : B ≤ w.heap.size) (hl : rs.length + totalO rs ≤ 1100000) (hk : k + 3 * totalO rs ≤ 4000000) (hk1 : 1 ≤ k) :
    Calls Tryz.prog 59 #[v, .int .i64 (k : Int)] w fun e w' => e = .returned (.int .i64 ((k + 3 * totalO rs : Nat) : Int)) ∧ OnlyB B C w w' := by
  obtain ⟨hs, hrow, hL⟩ := hown
  have HW := Lib.hid hrow
  have HL0 := Lib.hid hL
  have HC := Lib.hid hC
  have HS := Lib.hid hs
  obtain ⟨a, cap, rfl⟩ := own_slice hrow
  clear hrow hL hC hs
  go_enter Tryz.func59, Tryz.ntmps59
  go_wp2_with fail
  go_loopw [1, 5] (fun q i wr => ∃ j : Nat, j ≤ rs.length ∧ q = .int .i64 ((k + 3 * totalO (rs.take j) : Nat) : Int) ∧ i = .int .i64 j ∧ Hid (wr.ownsRow B 114 1 (.slice a rs.length cap) rs.length sl) ∧ Hid (ListsO B wr ((sl.zip rs).drop j)) ∧ Hid (OnlyB B C w wr)) (fun _ i _ => rs.length - (intOf i).toNat)
  case atStart => exact ⟨0, Nat.zero_le _, by simp [totalO], rfl, HW, by simpa [Hid] using HL0.out, ⟨Below.refl _ _, fun _ _ _ => rfl⟩⟩
  case round =>
    clear HW HL0
    obtain ⟨j, hj, rfl, rfl, HN, HL, HG⟩ := hrel
    by_cases hlt : j < rs.length
    · have hjs : j < sl.length := by have := HS.out; omega
      have hz : j < (sl.zip rs).length := by rw [List.length_zip]; omega
      have hdr : (sl.zip rs).drop j = (sl[j], rs[j]) :: (sl.zip rs).drop (j + 1) := by rw [List.drop_eq_getElem_cons hz, List.getElem_zip]
      have hl1 := HL.out
      rw [hdr] at hl1
      obtain ⟨ho, hp⟩ := hl1
      rw [List.pairwise_cons] at hp
      have hone := ho (sl[j], rs[j]) (by simp)
      simp only at hone
      obtain ⟨g, c2, hv⟩ : ∃ g c2, (Value.slice a rs.length cap) = .slice (some ⟨g, 0, none⟩) rs.length c2 := by
        rcases HN.out.2 with ⟨_, h0⟩ | ⟨g, c2, cur, hv, _⟩
        · omega
        · exact ⟨g, c2, hv⟩
      injection hv with hv1 hv2 hv3
      subst hv1
      have hc4 : rs.length ≤ cap := by
        rcases HN.out.2 with ⟨_, h0⟩ | ⟨g, c2, cur, hv, _, _, h5, _⟩
        · omega
        · injection hv with _ _ hv3; omega
      have hcell : wr.cell? ⟨g, j, none⟩ = some sl[j] := by rw [HN.out.cellAt j (by omega), List.getElem?_eq_getElem hjs]
      obtain ⟨a2, c3, hsv⟩ := own_sliceG hone
      have hmem : (sl[j], rs[j]) ∈ sl.zip rs := zip_getO hjs hlt
      have hbw : B ≤ wr.heap.size := Nat.le_trans hB HG.out.below.size
      have ht1 := totalO_at hlt
      have ht2 := totalO_le (rs := rs) (k := j + 1)
      have ht3 := totalO_next hlt
      have HC1 := Lib.hid (markOpS_any rs[j] (k + 3 * totalO (rs.take j)) B sl[j] wr hone (by omega) (by omega) (by omega))
      have HT := Lib.hid (totalO3 hlt k)
      have HNX : Hid (∀ w1, wr.grownBy w1 (sl[j]).ownBlock → w1.ownsRow B 114 1 (.slice (some ⟨g, 0, none⟩) rs.length cap) rs.length sl ∧ ListsO B w1 ((sl.zip rs).drop (j + 1)) ∧ OnlyB B C w w1) := fun w1 hg => by
        refine ⟨own_apartG HN.out hg (own_typesG hone HN.out (by decide)), ⟨fun p hp' => ?_, hp.2⟩, HG.out.trans (OnlyB.of_grown hg (fun i hi => ⟨(hone.lt i hi).1, HC.out _ hmem i hi⟩) hbw)⟩
        exact own_apartG (ho p (by simp [hp'])) hg (fun b h1 h2 => hp.1 p hp' b h1 h2)
      rw [hsv] at hcell HC1 HNX
      clear hdr ho hp hone hmem ht1 ht2 ht3 hv2 hv3 HN HL HG hz
      generalize k + 3 * totalO (rs.take j) = kq at *
      generalize rs[j].length = nj at *
      go_wp2_with fail
      refine HC1.out.mono ?_
      rintro e w1 ⟨rfl, hg1⟩
      have HF := Lib.hid (HNX.out w1 hg1)
      clear hg1 HC1 HNX
      go_wp2_with fail
      go_roundw
      case rel => exact ⟨j + 1, by omega, by rw [HT.out], by go_num, HF.out.1, HF.out.2.1, HF.out.2.2⟩
      case measure => simp [intOf]; omega
    · have e1 : rs.take j = rs := List.take_of_length_le (by omega)
      rw [e1]
      clear HN HL
      go_wp2_with fail
      go_ret
      exact ⟨rfl, HG.out⟩

/-- How many marks a plan takes. -/
def markZ (ls : List (List Int)) (l : List Int) (bs : List Bool) (rs : List (List OpT)) : Nat := totalG ls l + bs.length + 3 * totalO rs
theorem OwnOO.kept {B C D : Nat} {w w' : World} {v : Value} {sl : List Value} {rs : List (List OpT)} (h : OwnOO B w v sl rs) (hg : OnlyIn D C w w') : OwnOO B w' v sl rs :=
  ⟨h.1, own_kept hg (by decide) h.2.1, fun p hp => own_kept hg (by decide) (h.2.2.1 p hp), h.2.2.2⟩
theorem OwnOO.grown {B B' e z n : Nat} {w w' : World} {v u : Value} {xs : List Value} {sl : List Value} {rs : List (List OpT)} (h : OwnOO B w v sl rs) (ho : w.ownsRow B' e z u n xs) (h1 : e ≠ 114) (h2 : e ≠ 141) (hg : w.grownBy w' u.ownBlock) : OwnOO B w' v sl rs :=
  ⟨h.1, own_apartG h.2.1 hg (own_typesG ho h.2.1 h1), h.2.2.outer ho h2 hg⟩

set_option maxRecDepth 20000 in
set_option maxHeartbeats 4000000 in
theorem markPlan_any (ls : List (List Int)) (l : List Int) (bs : List Bool) (rs : List (List OpT)) (B : Nat) (v : Value) (w0 w : World) (h0 : PlanO B w0 v ls l bs rs) (hb0 : Below w0.heap.size w0 w) (hB : B ≤ w0.heap.size) (hz : planZ ls l bs rs ≤ 1048576) :
    Calls Tryz.prog 18 #[v, .int .i64 1] w fun e w' => e = .returned (.int .i64 ((1 + markZ ls l bs rs : Nat) : Int)) ∧ OnlyB B w0.heap.size w w' := by
  obtain ⟨nv, ov, sv, rv, so, rfl, hg, hb, hr⟩ := h0
  unfold planZ at hz
  obtain ⟨an, cn, ao, co, he⟩ := hg.slices
  simp only [Value.agg.injEq, Array.mk.injEq, List.cons.injEq, and_true] at he
  obtain ⟨rfl, rfl⟩ := he
  obtain ⟨as0, cs, rfl⟩ := own_slice hb
  obtain ⟨ar, cr, rfl⟩ := own_slice hr.2.1
  obtain ⟨wa, hwa⟩ : ∃ wa, wa = w.alloc (.cells #[.slice an ls.length cn, .slice ao l.length co, .slice as0 bs.length cs, .slice ar rs.length cr] 42) := ⟨_, rfl⟩
  have P0 : Hid (Blk4 wa w.heap.size 42 (.slice an ls.length cn) (.slice ao l.length co) (.slice as0 bs.length cs) (.slice ar rs.length cr)) := by rw [hwa]; exact Blk4.new
  have hAw : Below w.heap.size w wa := by rw [hwa]; exact (Below.refl w.heap.size w).alloc (Nat.le_refl _) _
  have HA := Lib.hid hAw
  have H0A := Lib.hid (bth hb0 hAw (Nat.le_refl _))
  have hCw : w0.heap.size ≤ w.heap.size := hb0.size
  have HBO := Lib.hid (own_below hb H0A.out)
  have HRO := Lib.hid (hr.below H0A.out)
  have HRL := Lib.hid (fun p hp b h => ((hr.2.2.1 p hp).lt b h).2)
  have HBL := Lib.hid (fun b h => hb.lt b h)
  have HC := Lib.hid (markGraph_any ls l 1 B _ w0 wa hg H0A.out hB (by omega) (by omega))
  have hone : ((1 : Nat) : Int) = 1 := rfl
  rw [hone] at HC
  have htg : totalG ls l ≤ 1048576 := by unfold totalG; omega
  have HWA := Lib.hid hwa
  have HZ : Hid (1 + markZ ls l bs rs = 1 + totalG ls l + bs.length + 3 * totalO rs) := by show _ = _; unfold markZ; omega
  have HZ2 : Hid (1 + totalG ls l + bs.length + 3 * totalO rs ≤ 4000000 ∧ rs.length + totalO rs ≤ 1100000 ∧ bs.length ≤ 1100000) := ⟨by unfold totalG; omega, by omega, by omega⟩
  clear hwa hg hb hr hb0 hone hz
  go_enter Tryz.func18, Tryz.ntmps18
  go_wp2_with fail
  rw [← HWA.out]
  refine HC.out.mono ?_
  rintro e w1 ⟨rfl, _, hoi⟩
  have O1 := Lib.hid (OnlyB.of_only hoi)
  have P1 := Lib.hid (O1.out.blk4 P0.out hCw)
  have HB1 := Lib.hid (own_kept hoi (by decide) HBO.out)
  have HR1 := Lib.hid (HRO.out.kept hoi)
  have hs1 : w0.heap.size ≤ w1.heap.size := Nat.le_trans hCw (Nat.le_trans HA.out.size hoi.below.size)
  have HC1 := Lib.hid (markBoolS_any bs (1 + totalG ls l) B _ w1 HB1.out HZ2.out.2.2 (by omega))
  have c2 := P1.out.cells.2.2.1
  clear hoi HC
  go_wp2_with fail
  refine HC1.out.mono ?_
  rintro e w2 ⟨rfl, hg2⟩
  have O2 := Lib.hid (O1.out.trans (OnlyB.of_grown (B := B) (C := w0.heap.size) hg2 (fun i hi => HBL.out i hi) (Nat.le_trans hB hs1)))
  have P2 := Lib.hid ((OnlyB.of_grown (B := B) (C := w0.heap.size) hg2 (fun i hi => HBL.out i hi) (Nat.le_trans hB hs1)).blk4 P1.out hCw)
  have HR2 := Lib.hid (HR1.out.grown HB1.out (by decide) (by decide) hg2)
  have hs2 : w0.heap.size ≤ w2.heap.size := Nat.le_trans hs1 hg2.size
  have HC2 := Lib.hid (markOpSS_any rs (1 + totalG ls l + bs.length) B w0.heap.size _ so w2 HR2.out HRL.out (Nat.le_trans hB hs2) HZ2.out.2.1 HZ2.out.1 (by omega))
  have c3 := P2.out.cells.2.2.2
  clear hg2 HC1 c2
  go_wp2_with fail
  refine HC2.out.mono ?_
  rintro e w3 ⟨rfl, hg3⟩
  have O3 := Lib.hid ((OnlyB.of_below (B := B) (C := w0.heap.size) HA.out (Nat.le_trans hB hCw)).trans (O2.out.trans hg3))
  clear hg3 HC2 c3
  go_wp2_with fail
  go_ret
  exact ⟨by rw [HZ.out] <;> rfl, O3.out⟩
end Go.Proofs.YtgolhfmmlanmlaaGreatDoor

/- Traces in memory: wherever they lie, and in memory of the call's own, which may be cut at its front. -/
namespace Go.Proofs.YtgolhfmmlanmlaaGreatDoor
open Go.RowKit Pth

/-- Two lists that do not lie in one block. -/
def ApartS (p q : Value × List (List UInt8)) : Prop := ∀ b, p.1.ownBlock = some b → q.1.ownBlock ≠ some b
theorem ApartS.symm {p q : Value × List (List UInt8)} (h : ApartS p q) : ApartS q p := fun b h1 h2 => h b h2 h1
/-- Lists of texts of the call's own, no two in one block. -/
def ListsS (B : Nat) (w : World) (L : List (Value × List (List UInt8))) : Prop := (∀ p ∈ L, w.ownsRow B 9 1 p.1 p.2.length (S p.2)) ∧ L.Pairwise ApartS
theorem ListsS.below {B : Nat} {w w' : World} {L : List (Value × List (List UInt8))} (h : ListsS B w L) (hb : Below w.heap.size w w') : ListsS B w' L := ⟨fun p hp => own_below (h.1 p hp) hb, h.2⟩
theorem ListsS.base {B B' : Nat} {w : World} {L : List (Value × List (List UInt8))} (h : ListsS B w L) (hB : B' ≤ B) : ListsS B' w L := ⟨fun p hp => own_base (h.1 p hp) hB, h.2⟩
theorem ListsS.perm {B : Nat} {w : World} {L M : List (Value × List (List UInt8))} (h : ListsS B w L) (hp : L.Perm M) : ListsS B w M :=
  ⟨fun p hm => h.1 p (hp.mem_iff.2 hm), (hp.pairwise_iff (fun h => ApartS.symm h)).1 h.2⟩
theorem ListsS.snoc {B B2 : Nat} {w w' : World} {L : List (Value × List (List UInt8))} {v : Value} {l : List (List UInt8)} (h : ListsS B w L) (hb : Below w.heap.size w w') (hown : w'.ownsRow B2 9 1 v l.length (S l)) (h2 : w.heap.size ≤ B2) (hB : B ≤ B2) :
    ListsS B w' (L ++ [(v, l)]) := by
  refine ⟨fun p hp => ?_, ?_⟩
  · rw [List.mem_append, List.mem_singleton] at hp
    rcases hp with hp | rfl
    · exact own_below (h.1 p hp) hb
    · exact own_base hown hB
  · rw [List.pairwise_append]
    refine ⟨h.2, by simp, fun p hp q hq b hpb hqb => ?_⟩
    rw [List.mem_singleton] at hq
    subst hq
    have h1 := ((h.1 p hp).lt b hpb).2
    have h2' := (hown.lt b hqb).1
    omega
theorem ListsS.left {B : Nat} {w : World} {L M : List (Value × List (List UInt8))} (h : ListsS B w (L ++ M)) : ListsS B w L := ⟨fun p hp => h.1 p (List.mem_append.2 (.inl hp)), (List.pairwise_append.1 h.2).1⟩
theorem ListsS.right {B : Nat} {w : World} {L M : List (Value × List (List UInt8))} (h : ListsS B w (L ++ M)) : ListsS B w M := ⟨fun p hp => h.1 p (List.mem_append.2 (.inr hp)), (List.pairwise_append.1 h.2).2.1⟩
/-- One of them has turned, in its block or into a new one. -/
theorem ListsS.turn {B : Nat} {w w' : World} {L M : List (Value × List (List UInt8))} {v v' : Value} {l l' : List (List UInt8)} (h : ListsS B w (L ++ (v, l) :: M)) (hg : w.grownBy w' v.ownBlock) (hown : w'.ownsRow B 9 1 v' l'.length (S l'))
    (hv : ∀ b, v'.ownBlock = some b → v.ownBlock = some b ∨ w.heap.size ≤ b) : ListsS B w' (L ++ (v', l') :: M) := by
  obtain ⟨h1, h2⟩ := h
  rw [List.pairwise_append, List.pairwise_cons] at h2
  obtain ⟨p1, ⟨p2, p3⟩, p4⟩ := h2
  have ap : ∀ p ∈ L ++ M, ApartS (v, l) p := by
    intro p hp
    rcases List.mem_append.1 hp with h | h
    · exact (p4 p h (v, l) (by simp)).symm
    · exact p2 p h
  have own : ∀ p ∈ L ++ M, w.ownsRow B 9 1 p.1 p.2.length (S p.2) := fun p hp => h1 p (by rcases List.mem_append.1 hp with h | h <;> simp [h])
  have ap' : ∀ p ∈ L ++ M, ApartS (v', l') p := by
    intro p hp b hb hb'
    rcases hv b hb with h | h
    · exact ap p hp b h hb'
    · have := ((own p hp).lt b hb').2; omega
  refine ⟨fun p hp => ?_, ?_⟩
  · rw [List.mem_append, List.mem_cons] at hp
    rcases hp with hp | rfl | hp
    · exact own_apartI (h1 p (by simp [hp])) hg (ap p (by simp [hp]))
    · exact hown
    · exact own_apartI (h1 p (by simp [hp])) hg (ap p (by simp [hp]))
  · rw [List.pairwise_append, List.pairwise_cons]
    refine ⟨p1, ⟨fun p hp => ap' p (by simp [hp]), p3⟩, fun p hp q hq => ?_⟩
    rw [List.mem_cons] at hq
    rcases hq with rfl | hq
    · exact (ap' p (by simp [hp])).symm
    · exact p4 p hp q (by simp [hq])

/-- A list of another type has turned. -/
theorem ListsS.outer {B B' e n : Nat} {w w' : World} {L : List (Value × List (List UInt8))} {u : Value} {xs : List Value} (h : ListsS B w L) (ho : w.ownsRow B' e 1 u n xs) (he : e ≠ 9) (hg : w.grownBy w' u.ownBlock) : ListsS B w' L :=
  ⟨fun p hp => own_apartI (h.1 p hp) hg (own_typesI ho (h.1 p hp) he), h.2⟩
theorem ListsS.set {B : Nat} {w : World} {L : List (Value × List (List UInt8))} (h : ListsS B w L) {p : Addr} (hp : p.block < B) (u : Value) : ListsS B (w.setCell p u) L := by
  refine ⟨fun q hq => ?_, h.2⟩
  have ho := h.1 q hq
  refine ⟨ho.1, ?_⟩
  rcases ho.2 with h0 | ⟨g, cap, cur, hv, hg, hh, r⟩
  · exact .inl h0
  · exact .inr ⟨g, cap, cur, hv, hg, (Below.heap_setCell w p u g (by omega)).trans hh, r⟩

/-- Only the blocks of these lists have turned. -/
structure GrownS (w w' : World) (L : List (Value × List (List UInt8))) : Prop where
  os : w'.os = w.os
  tape : w'.tape = w.tape
  output : w'.output = w.output
  size : w.heap.size ≤ w'.heap.size
  block : ∀ i, i < w.heap.size → (∀ p ∈ L, p.1.ownBlock ≠ some i) → w'.heap[i]? = w.heap[i]?
theorem GrownS.refl (w : World) (L : List (Value × List (List UInt8))) : GrownS w w L := ⟨rfl, rfl, rfl, Nat.le_refl _, fun _ _ _ => rfl⟩
theorem GrownS.one {a b c : World} {L : List (Value × List (List UInt8))} {v : Value} {l : List (List UInt8)} (h : GrownS a b L) (k : b.grownBy c v.ownBlock) (hm : (v, l) ∈ L) : GrownS a c L :=
  ⟨k.os.trans h.os, k.tape.trans h.tape, k.output.trans h.output, Nat.le_trans h.size k.size, fun i hi hne => (k.block i (Nat.lt_of_lt_of_le hi h.size) (fun e => hne _ hm e.symm)).trans (h.block i hi hne)⟩
theorem GrownS.below {B : Nat} {w w' : World} {L : List (Value × List (List UInt8))} (h : GrownS w w' L) (hl : ListsS B w L) (hB : B ≤ w.heap.size) : Below B w w' :=
  ⟨h.os, h.tape, h.output, h.size, fun i hi => h.block i (by omega) (fun p hp e => by have := ((hl.1 p hp).lt i e).1; omega)⟩

/-- One of them is put in place of another: what is behind all of them goes to its place. -/
theorem ListsS.put {B : Nat} {w : World} {L : List (Value × List (List UInt8))} {x : Value × List (List UInt8)} (h : ListsS B w (L ++ [x])) (k : Nat) : ListsS B w (L.set k x) := by
  obtain ⟨h1, h2⟩ := h
  rw [List.pairwise_append] at h2
  obtain ⟨p1, _, p3⟩ := h2
  refine ⟨fun p hp => ?_, ?_⟩
  · rcases List.mem_or_eq_of_mem_set hp with h | h
    · exact h1 p (List.mem_append.2 (.inl h))
    · exact h1 p (by rw [h]; simp)
  · rw [List.pairwise_iff_getElem]
    intro i j hi hj hij
    rw [List.length_set] at hi hj
    rw [List.getElem_set, List.getElem_set]
    rw [List.pairwise_iff_getElem] at p1
    by_cases e1 : k = i
    · rw [if_pos e1, if_neg (by omega)]
      exact (p3 _ (List.getElem_mem hj) x (by simp)).symm
    · rw [if_neg e1]
      by_cases e2 : k = j
      · rw [if_pos e2]
        exact p3 _ (List.getElem_mem hi) x (by simp)
      · rw [if_neg e2]
        exact p1 i j hi hj hij
theorem ListsS.drop {B : Nat} {w : World} {L : List (Value × List (List UInt8))} (h : ListsS B w L) (k : Nat) : ListsS B w (L.drop k) :=
  ⟨fun p hp => h.1 p (List.mem_of_mem_drop hp), h.2.sublist (List.drop_sublist _ _)⟩

/-- A trace as cells, as a value. -/
def trC (u : Value) (t : TrT) : List Value := [.int .i64 t.1, u, .string ⟨t.2.2.1.toArray⟩, .int .i64 t.2.2.2]
def trV (u : Value) (t : TrT) : Value := .agg #[.int .i64 t.1, u, .string ⟨t.2.2.1.toArray⟩, .int .i64 t.2.2.2]
def TC : List Value → List TrT → List Value
  | u :: us, t :: ts => trC u t ++ TC us ts
  | _, _ => []
theorem TC_len {sl : List Value} {l : List TrT} (h : sl.length = l.length) : (TC sl l).length = l.length * 4 := by
  induction sl generalizing l with
  | nil => cases l with
    | nil => rfl
    | cons _ _ => simp at h
  | cons u us ih => cases l with
    | nil => simp at h
    | cons t ts =>
      have := ih (l := ts) (by simpa using h)
      rw [TC, List.length_append, this, List.length_cons]
      simp only [trC, List.length_cons, List.length_nil]; omega
theorem TC_append {sl sl' : List Value} {l l' : List TrT} (h : sl.length = l.length) : TC (sl ++ sl') (l ++ l') = TC sl l ++ TC sl' l' := by
  induction sl generalizing l with
  | nil => cases l with
    | nil => rfl
    | cons _ _ => simp at h
  | cons u us ih => cases l with
    | nil => simp at h
    | cons t ts =>
      have := ih (l := ts) (by simpa using h)
      simp only [List.cons_append, TC, this, List.append_assoc]
theorem TC_one' (u : Value) (t : TrT) : TC [u] [t] = trC u t := by simp [TC]
theorem TC_drop {sl : List Value} {l : List TrT} (h : sl.length = l.length) (k : Nat) : (TC sl l).drop (k * 4) = TC (sl.drop k) (l.drop k) := by
  by_cases hk : k ≤ l.length
  · have e : TC sl l = TC (sl.take k) (l.take k) ++ TC (sl.drop k) (l.drop k) := by
      rw [← TC_append (by rw [List.length_take, List.length_take, h]), List.take_append_drop, List.take_append_drop]
    have hl : (TC (sl.take k) (l.take k)).length = k * 4 := by rw [TC_len (by rw [List.length_take, List.length_take, h]), List.length_take]; omega
    rw [e, ← hl, List.drop_left]
  · rw [List.drop_of_length_le (by rw [TC_len h]; omega), List.drop_of_length_le (l := sl) (by omega)]; rfl
theorem TC_take {sl : List Value} {l : List TrT} (h : sl.length = l.length) {k : Nat} (hk : k ≤ l.length) : (TC sl l).take (k * 4) = TC (sl.take k) (l.take k) := by
  have e : TC sl l = TC (sl.take k) (l.take k) ++ TC (sl.drop k) (l.drop k) := by
    rw [← TC_append (by rw [List.length_take, List.length_take, h]), List.take_append_drop, List.take_append_drop]
  have hl : (TC (sl.take k) (l.take k)).length = k * 4 := by rw [TC_len (by rw [List.length_take, List.length_take, h]), List.length_take]; omega
  rw [e, ← hl, List.take_left]
theorem TC_at {sl : List Value} {l : List TrT} (h : sl.length = l.length) {k : Nat} (hk : k < l.length) :
    (TC sl l)[k * 4]? = some (.int .i64 l[k].1) ∧ (TC sl l)[k * 4 + 1]? = some (sl[k]'(by omega)) ∧ (TC sl l)[k * 4 + 2]? = some (.string ⟨(l[k]).2.2.1.toArray⟩) ∧ (TC sl l)[k * 4 + 3]? = some (.int .i64 l[k].2.2.2) := by
  have h1 : (TC sl l).drop (k * 4) = TC (sl.drop k) (l.drop k) := TC_drop h k
  rw [List.drop_eq_getElem_cons hk, List.drop_eq_getElem_cons (by omega : k < sl.length)] at h1
  have g : ∀ j : Nat, ((TC sl l).drop (k * 4))[j]? = (TC (sl[k]'(by omega) :: sl.drop (k + 1)) (l[k] :: l.drop (k + 1)))[j]? := fun j => by rw [h1]
  refine ⟨?_, ?_, ?_, ?_⟩
  · have := g 0; rw [List.getElem?_drop] at this; exact this
  · have := g 1; rw [List.getElem?_drop] at this; exact this
  · have := g 2; rw [List.getElem?_drop] at this; exact this
  · have := g 3; rw [List.getElem?_drop] at this; exact this
theorem trC_one {u : Value} (hu : u.oneCell' = true) (t : TrT) : ∀ x ∈ trC u t, x.oneCell' = true := by
  intro x hx
  simp only [trC, List.mem_cons, List.not_mem_nil, or_false] at hx
  rcases hx with h | h | h | h
  · rw [h]; rfl
  · rw [h]; exact hu
  · rw [h]; rfl
  · rw [h]; rfl
/-- A trace of a list is set. -/
theorem TC_set {sl : List Value} {l : List TrT} (h : sl.length = l.length) {k : Nat} (hk : k < l.length) (u : Value) (t : TrT) :
    ((((TC sl l).set (k * 4) (.int .i64 t.1)).set (k * 4 + 1) u).set (k * 4 + 2) (.string ⟨t.2.2.1.toArray⟩)).set (k * 4 + 3) (.int .i64 t.2.2.2) = TC (sl.set k u) (l.set k t) := by
  have es : sl = sl.take k ++ sl[k]'(by omega) :: sl.drop (k + 1) := by rw [← List.drop_eq_getElem_cons (by omega), List.take_append_drop]
  have el : l = l.take k ++ l[k] :: l.drop (k + 1) := by rw [← List.drop_eq_getElem_cons hk, List.take_append_drop]
  have e1 : sl.set k u = sl.take k ++ u :: sl.drop (k + 1) := by rw [List.set_eq_take_append_cons_drop, if_pos (by omega)]
  have e2 : l.set k t = l.take k ++ t :: l.drop (k + 1) := by rw [List.set_eq_take_append_cons_drop, if_pos hk]
  have ht : (sl.take k).length = (l.take k).length := by rw [List.length_take, List.length_take, h]
  have hl : (TC (sl.take k) (l.take k)).length = k * 4 := by rw [TC_len ht, List.length_take]; omega
  have e0 : TC sl l = TC (sl.take k) (l.take k) ++ TC (sl.drop k) (l.drop k) := by rw [← TC_append ht, List.take_append_drop, List.take_append_drop]
  rw [List.drop_eq_getElem_cons hk, List.drop_eq_getElem_cons (by omega : k < sl.length)] at e0
  rw [e0, e1, e2, TC_append ht]
  rw [List.set_append_right _ _ (by omega), hl, Nat.sub_self, List.set_append_right _ _ (by omega), hl, show k * 4 + 1 - k * 4 = 1 by omega, List.set_append_right _ _ (by omega), hl, show k * 4 + 2 - k * 4 = 2 by omega,
    List.set_append_right _ _ (by omega), hl, show k * 4 + 3 - k * 4 = 3 by omega]
  rfl

/-- A slice that reads as traces. -/
def RowT (w : World) (v : Value) (l : List TrT) : Prop :=
  ∃ sl : List Value, sl.length = l.length ∧ RowG 4 w v l.length (TC sl l) ∧ ∀ k (h1 : k < sl.length) (h2 : k < l.length), RowV w sl[k] (S l[k].2.1)
theorem RowT.below {w w' : World} {v : Value} {l : List TrT} (h : RowT w v l) (hb : Below w.heap.size w w') : RowT w' v l := by
  obtain ⟨sl, h1, h2, h3⟩ := h
  exact ⟨sl, h1, h2.below hb, fun k a b => (h3 k a b).below hb⟩
theorem RowT.traces {w : World} {v : Value} {l : List TrT} (h : RowT w v l) :
    ∃ a c, v = .slice a l.length c ∧ l.length ≤ c ∧ c ≤ maxLen ∧ ∀ k (hk : k < l.length), ∃ g o a2 c2, a = some ⟨g, o, none⟩ ∧ g < w.heap.size ∧ (w.cell? ⟨g, o + k * 4, none⟩ = some (.int .i64 l[k].1) ∧
      w.cell? ⟨g, o + k * 4 + 1, none⟩ = some (.slice a2 l[k].2.1.length c2) ∧ w.cell? ⟨g, o + k * 4 + 2, none⟩ = some (.string ⟨(l[k]).2.2.1.toArray⟩) ∧ w.cell? ⟨g, o + k * 4 + 3, none⟩ = some (.int .i64 l[k].2.2.2)) ∧ RowV w (.slice a2 l[k].2.1.length c2) (S l[k].2.1) := by
  obtain ⟨sl, hs, ⟨a, c, hv, h0, h1, h2, hat⟩, hr⟩ := h
  refine ⟨a, c, hv, h1, h2, fun k hk => ?_⟩
  obtain ⟨q0, q1, q2, q3⟩ := TC_at hs hk
  obtain ⟨g, o, ha, hg, hc⟩ := hat (k * 4) (by omega)
  obtain ⟨g1, o1, ha1, _, hc1⟩ := hat (k * 4 + 1) (by omega)
  obtain ⟨g2, o2, ha2, _, hc2⟩ := hat (k * 4 + 2) (by omega)
  obtain ⟨g3, o3, ha3, _, hc3⟩ := hat (k * 4 + 3) (by omega)
  rw [ha] at ha1 ha2 ha3
  obtain ⟨rfl, rfl⟩ := addr_inj ha1
  obtain ⟨rfl, rfl⟩ := addr_inj ha2
  obtain ⟨rfl, rfl⟩ := addr_inj ha3
  rw [List.getElem?_eq_getElem (by omega)] at q0 q1 q2 q3
  have hrk := hr k (by omega) hk
  obtain ⟨a2, c2, he, _⟩ := hrk.texts
  rw [he] at q1 hrk
  exact ⟨g, o, a2, c2, ha, hg, ⟨hc.trans q0, by rw [Nat.add_assoc]; exact hc1.trans q1, by rw [Nat.add_assoc]; exact hc2.trans q2, by rw [Nat.add_assoc]; exact hc3.trans q3⟩, hrk⟩
theorem RowT.front {w : World} {a : Option Addr} {c n : Nat} {l : List TrT} (h : RowT w (.slice a n c) l) (hn : n = l.length) (k : Nat) (hk : k ≤ n) : RowT w (.slice a k c) (l.take k) := by
  subst hn
  obtain ⟨sl, hs, h1, hr⟩ := h
  have e : (l.take k).length = k := by rw [List.length_take]; omega
  refine ⟨sl.take k, by rw [List.length_take, List.length_take, hs], ?_, fun j h1 h2 => ?_⟩
  · have := h1.front k hk
    rw [TC_take hs hk] at this
    rw [e]; exact this
  · have := hr j (by rw [List.length_take] at h1; omega) (by rw [List.length_take] at h2; omega)
    rw [List.getElem_take, List.getElem_take]; exact this

/-- A trace, as a value. -/
def TrV (w : World) (v : Value) (t : TrT) : Prop := ∃ a c, v = trV (.slice a t.2.1.length c) t ∧ RowV w (.slice a t.2.1.length c) (S t.2.1)
theorem TrV.below {w w' : World} {v : Value} {t : TrT} (h : TrV w v t) (hb : Below w.heap.size w w') : TrV w' v t := by
  obtain ⟨a, c, hv, h1⟩ := h
  exact ⟨a, c, hv, h1.below hb⟩

theorem elemT : ElemG 36 80 (.agg #[.int .i64 0, .slice none 0 0, .string ByteArray.empty, .int .i64 0]) 4 56 := ⟨Tryz.underlying36, by kernel_rfl, rfl, by decide, by decide⟩

/-- A row of the call's own, wherever in its block it begins. -/
def OwnA (B e z : Nat) (w : World) (v : Value) (n : Nat) (xs : List Value) : Prop :=
  xs.length = n * z ∧ ((v = .slice none 0 0 ∧ n = 0) ∨ ∃ g o cap cur, v = .slice (some ⟨g, o, none⟩) n cap ∧ B ≤ g ∧ w.heap[g]? = some (.cells cur e (0, 0)) ∧ n ≤ cap ∧ cap ≤ maxLen ∧ o + cap * z ≤ cur.size ∧ ∀ j (hj : j < xs.length), cur[o + j]? = some xs[j])
theorem OwnA.of_own {B e z n : Nat} {w : World} {v : Value} {xs : List Value} (h : w.ownsRow B e z v n xs) : OwnA B e z w v n xs := by
  refine ⟨h.1, ?_⟩
  rcases h.2 with h0 | ⟨g, cap, cur, hv, hB, hh, hn, hm, hs, ht⟩
  · exact .inl h0
  · refine .inr ⟨g, 0, cap, cur, hv, hB, hh, hn, hm, by omega, fun j hj => ?_⟩
    subst hv
    have := World.ownsRow.cellAt h j (by have := h.1; omega)
    rw [cell_of_row w g j cur _ (0, 0) hh, List.getElem?_eq_getElem hj] at this
    rw [Nat.zero_add]; exact this
theorem OwnA.row {B e z n : Nat} {w : World} {v : Value} {xs : List Value} (h : OwnA B e z w v n xs) : RowG z w v n xs := by
  rcases h.2 with ⟨hv, h0⟩ | ⟨g, o, cap, cur, hv, hB, hh, hn, hm, hs, hc⟩
  · exact ⟨none, 0, by rw [hv, h0], h.1, by omega, by unfold maxLen; omega, fun k hk => by have := h.1; rw [h0] at this; omega⟩
  · exact ⟨_, cap, hv, h.1, hn, hm, fun k hk => ⟨g, o, rfl, lt_of_block hh, by rw [cell_of_row w g (o + k) cur _ (0, 0) hh]; exact hc k hk⟩⟩
theorem OwnA.keep {B e z n : Nat} {w w' : World} {v : Value} {xs : List Value} (h : OwnA B e z w v n xs) (hk : ∀ g cur, v.ownBlock = some g → w.heap[g]? = some (.cells cur e (0, 0)) → w'.heap[g]? = w.heap[g]?) : OwnA B e z w' v n xs := by
  refine ⟨h.1, ?_⟩
  rcases h.2 with h0 | ⟨g, o, cap, cur, hv, hB, hh, r⟩
  · exact .inl h0
  · exact .inr ⟨g, o, cap, cur, hv, hB, (hk g cur (by rw [hv]; rfl) hh).trans hh, r⟩
theorem OwnA.below {B e z n : Nat} {w w' : World} {v : Value} {xs : List Value} (h : OwnA B e z w v n xs) (hb : Below w.heap.size w w') : OwnA B e z w' v n xs := h.keep fun g _ _ hh => hb.block g (lt_of_block hh)
theorem OwnA.base {B B' e z n : Nat} {w : World} {v : Value} {xs : List Value} (h : OwnA B e z w v n xs) (hB : B' ≤ B) : OwnA B' e z w v n xs := by
  refine ⟨h.1, ?_⟩
  rcases h.2 with h0 | ⟨g, o, cap, cur, hv, hg, r⟩
  · exact .inl h0
  · exact .inr ⟨g, o, cap, cur, hv, by omega, r⟩
theorem OwnA.lt {B e z n : Nat} {w : World} {v : Value} {xs : List Value} (h : OwnA B e z w v n xs) : ∀ b, v.ownBlock = some b → B ≤ b ∧ b < w.heap.size := by
  intro b hb
  rcases h.2 with ⟨hv, _⟩ | ⟨g, o, cap, cur, hv, hg, hh, _⟩
  · rw [hv] at hb; simp [Value.ownBlock] at hb
  · rw [hv] at hb
    simp only [Value.ownBlock, Option.some.injEq] at hb
    subst hb
    exact ⟨hg, lt_of_block hh⟩
theorem OwnA.slice {B e z n : Nat} {w : World} {v : Value} {xs : List Value} (h : OwnA B e z w v n xs) : ∃ a c, v = .slice a n c ∧ n ≤ c ∧ c ≤ maxLen := by
  obtain ⟨a, c, hv, _, h1, h2, _⟩ := h.row
  exact ⟨a, c, hv, h1, h2⟩
/-- Rows of two types do not share a block. -/
theorem OwnA.types {B B' e e' z z' n n' : Nat} {w : World} {v v' : Value} {xs xs' : List Value} (h : OwnA B e z w v n xs) (h' : w.ownsRow B' e' z' v' n' xs') (hne : e ≠ e') : ∀ k, v.ownBlock = some k → v'.ownBlock ≠ some k := by
  intro k hk hk'
  rcases h.2 with ⟨hv, _⟩ | ⟨g, o, cap, cur, hv, _, hg, _⟩
  · rw [hv] at hk; simp [Value.ownBlock] at hk
  · rcases h'.2 with ⟨hv', _⟩ | ⟨g', cap', cur', hv', _, hg', _⟩
    · rw [hv'] at hk'; simp [Value.ownBlock] at hk'
    · rw [hv] at hk; rw [hv'] at hk'
      simp only [Value.ownBlock, Option.some.injEq] at hk hk'
      subst hk
      subst hk'
      rw [hg] at hg'
      simp at hg'
      exact hne hg'.2
/-- Another row has turned. -/
theorem OwnA.apart {B e z n : Nat} {w w' : World} {v u : Value} {xs : List Value} (h : OwnA B e z w v n xs) (hg : w.grownBy w' u.ownBlock) (hne : ∀ k, u.ownBlock = some k → v.ownBlock ≠ some k) : OwnA B e z w' v n xs :=
  h.keep fun g _ hv hh => hg.block g (lt_of_block hh) (fun hi => hne g hi.symm hv)
theorem OwnA.other {B B' e e' z z' n n' : Nat} {w w' : World} {v u : Value} {xs ys : List Value} (h : OwnA B e z w v n xs) (ho : w.ownsRow B' e' z' u n' ys) (hne : e ≠ e') (hg : w.grownBy w' u.ownBlock) : OwnA B e z w' v n xs :=
  h.apart hg (fun k hk hv => h.types ho hne k hv hk)
/-- A row of another type stays as such a one turns. -/
theorem OwnA.stays {B B' e e' z z' n n' : Nat} {w w' : World} {v u : Value} {xs ys : List Value} (h : OwnA B e z w v n xs) (ho : w.ownsRow B' e' z' u n' ys) (hne : e ≠ e') (hg : w.grownBy w' v.ownBlock) : w'.ownsRow B' e' z' u n' ys :=
  own_apartG ho hg (h.types ho hne)
theorem ListsS.grownA {B B' e z n : Nat} {w w' : World} {v : Value} {xs : List Value} {L : List (Value × List (List UInt8))} (hl : ListsS B w L) (h : OwnA B' e z w v n xs) (hne : e ≠ 9) (hg : w.grownBy w' v.ownBlock) : ListsS B w' L :=
  ⟨fun p hp => h.stays (hl.1 p hp) hne hg, hl.2⟩
theorem OwnA.set_below {B e z n : Nat} {w : World} {v : Value} {xs : List Value} (h : OwnA B e z w v n xs) {p : Addr} (hp : p.block < B) (u : Value) : OwnA B e z (w.setCell p u) v n xs :=
  h.keep fun g _ hv _ => Below.heap_setCell w p u g (by have := (h.lt g hv).1; omega)
theorem OwnA.empty (B e z : Nat) (w : World) : OwnA B e z w (.slice none 0 0) 0 [] := ⟨by simp, .inl ⟨rfl, rfl⟩⟩
/-- A cell of it is written. -/
theorem OwnA.stored {B e z n : Nat} {w : World} {g o cap : Nat} {xs : List Value} (h : OwnA B e z w (.slice (some ⟨g, o, none⟩) n cap) n xs) (j : Nat) (u : Value) :
    OwnA B e z (w.setCell ⟨g, o + j, none⟩ u) (.slice (some ⟨g, o, none⟩) n cap) n (xs.set j u) ∧ w.grownBy (w.setCell ⟨g, o + j, none⟩ u) (some g) := by
  refine ⟨⟨by rw [List.length_set]; exact h.1, ?_⟩, ⟨rfl, rfl, rfl, by simp, fun i _ hne => Below.heap_setCell w _ _ i (fun e => hne (by rw [e]))⟩⟩
  rcases h.2 with ⟨hv, _⟩ | ⟨g', o', cap', cur, hv, hB, hh, hn, hm, hs, hc⟩
  · simp at hv
  · injection hv with e1 _ e3
    obtain ⟨rfl, rfl⟩ := addr_inj e1
    subst e3
    refine .inr ⟨g, o, cap, _, rfl, hB, heap_setCell_same w g (o + j) cur e u hh, hn, hm, by simpa using hs, fun i hi => ?_⟩
    rw [List.length_set] at hi
    rw [List.getElem_set]
    by_cases e : j = i
    · subst e
      rw [if_pos rfl, Array.getElem?_setIfInBounds_self_of_lt]
      have h1 := hc j hi
      by_cases hlt : o + j < cur.size
      · exact hlt
      · rw [Array.getElem?_eq_none (by omega)] at h1; cases h1
    · rw [if_neg e, Array.getElem?_setIfInBounds_ne (by omega)]
      exact hc i hi
theorem OwnA.soft {B e z n : Nat} {w : World} {g o cap : Nat} {xs : List Value} (h : OwnA B e z w (.slice (some ⟨g, o, none⟩) n cap) n xs) (j : Nat) : w.frozen? ⟨g, j, none⟩ = false := by
  rcases h.2 with ⟨hv, _⟩ | ⟨g', o', cap', cur, hv, hB, hh, _⟩
  · simp at hv
  · injection hv with e1 _ e3
    obtain ⟨rfl, rfl⟩ := addr_inj e1
    exact frozen_of_row w g j cur _ hh
theorem OwnA.cell {B e z n : Nat} {w : World} {g o cap : Nat} {xs : List Value} (h : OwnA B e z w (.slice (some ⟨g, o, none⟩) n cap) n xs) {j : Nat} {u : Value} (hj : xs[j]? = some u) : w.cell? ⟨g, o + j, none⟩ = some u := by
  rcases h.2 with ⟨hv, _⟩ | ⟨g', o', cap', cur, hv, hB, hh, _, _, _, hc⟩
  · simp at hv
  · injection hv with e1 _ e3
    obtain ⟨rfl, rfl⟩ := addr_inj e1
    obtain ⟨h1, h2⟩ := List.getElem?_eq_some_iff.1 hj
    rw [cell_of_row w g (o + j) cur _ (0, 0) hh, hc j h1, h2]
/-- Where it lies, if it has an element. -/
theorem OwnA.addr {B e z n : Nat} {w : World} {v : Value} {xs : List Value} (h : OwnA B e z w v n xs) (hn : 0 < n) : ∃ g o cap, v = .slice (some ⟨g, o, none⟩) n cap ∧ n ≤ cap ∧ cap ≤ maxLen ∧ g < w.heap.size ∧ B ≤ g := by
  rcases h.2 with ⟨_, h0⟩ | ⟨g, o, cap, cur, hv, hB, hh, h1, h2, _⟩
  · omega
  · exact ⟨g, o, cap, hv, h1, h2, lt_of_block hh, hB⟩
/-- Without its first ones. -/
theorem OwnA.cut {B e z n : Nat} {w : World} {a : Option Addr} {cap : Nat} {xs : List Value} (h : OwnA B e z w (.slice a n cap) n xs) (k : Nat) (hk : k ≤ n) :
    OwnA B e z w (.slice (if cap = k then a else a.map (·.add (k * z))) (n - k) (cap - k)) (n - k) (xs.drop (k * z)) := by
  have hlen : (xs.drop (k * z)).length = (n - k) * z := by rw [List.length_drop, h.1, Nat.sub_mul]
  refine ⟨hlen, ?_⟩
  rcases h.2 with ⟨hv, h0⟩ | ⟨g, o, cap', cur, hv, hB, hh, hn, hm, hs, hc⟩
  · injection hv with e1 e2 e3
    subst e1 e3
    obtain rfl : k = 0 := by omega
    exact .inl ⟨by simp [h0], by omega⟩
  · injection hv with e1 _ e3
    subst e1 e3
    by_cases e : cap = k
    · refine .inr ⟨g, o, 0, cur, ?_, hB, hh, by omega, by unfold maxLen; omega, by omega, fun j hj => ?_⟩
      · rw [if_pos e]; congr 1; omega
      · have h0 : n - k = 0 := by omega
        rw [hlen, h0] at hj; omega
    · have hks : k * z ≤ cap * z := Nat.mul_le_mul_right _ (by omega)
      refine .inr ⟨g, o + k * z, cap - k, cur, ?_, hB, hh, by omega, by omega, by rw [Nat.sub_mul]; omega, fun j hj => ?_⟩
      · rw [if_neg e, Option.map_some, add_addr]
      · rw [List.getElem_drop, Nat.add_assoc]
        exact hc _ _
/-- Cells that are written into a block, one behind the other. -/
theorem setCells_block (g : Nat) (e : TypeId) : ∀ (vs : List Value) (o : Nat) (w : World) (cur : Array Value), w.heap[g]? = some (.cells cur e (0, 0)) →
    ∃ cur', (w.setCells g o vs).heap[g]? = some (.cells cur' e (0, 0)) ∧ cur'.size = cur.size ∧ (∀ j (hj : j < vs.length), o + j < cur.size → cur'[o + j]? = some vs[j]) ∧ ∀ i, i < o → cur'[i]? = cur[i]?
  | [], o, w, cur, h => ⟨cur, h, rfl, fun j hj => by simp at hj, fun _ _ => rfl⟩
  | v :: vs, o, w, cur, h => by
    obtain ⟨cur', h1, h2, h3, h4⟩ := setCells_block g e vs (o + 1) (w.setCell ⟨g, o, none⟩ v) _ (heap_setCell_same w g o cur e v h)
    refine ⟨cur', h1, by rw [h2]; simp, fun j hj ho => ?_, fun i hi => ?_⟩
    · cases j with
      | zero => rw [Nat.add_zero, h4 o (by omega), Array.getElem?_setIfInBounds_self_of_lt (by omega)]; rfl
      | succ j =>
        have := h3 j (by simpa using hj) (by simp; omega)
        rw [show o + (j + 1) = o + 1 + j by omega, this]; rfl
    · rw [h4 i (by omega), Array.getElem?_setIfInBounds_ne (by omega)]
theorem setCells_frame (g : Nat) : ∀ (vs : List Value) (o : Nat) (w : World), (w.setCells g o vs).os = w.os ∧ (w.setCells g o vs).tape = w.tape ∧ (w.setCells g o vs).output = w.output ∧ (w.setCells g o vs).heap.size = w.heap.size ∧ ∀ i, i ≠ g → (w.setCells g o vs).heap[i]? = w.heap[i]?
  | [], _, _ => ⟨rfl, rfl, rfl, rfl, fun _ _ => rfl⟩
  | v :: vs, o, w => by
    obtain ⟨h1, h2, h3, h4, h5⟩ := setCells_frame g vs (o + 1) (w.setCell ⟨g, o, none⟩ v)
    exact ⟨h1, h2, h3, h4.trans (by simp), fun i hi => (h5 i hi).trans (Below.heap_setCell w ⟨g, o, none⟩ v i hi)⟩
/-- One put behind. -/
theorem OwnA.push {t e : TypeId} {zv : Value} {size bytes : Nat} (E : ElemG t e zv size bytes) {B n : Nat} {w : World} {v : Value} {xs : List Value} (h : OwnA B e size w v n xs) (y : Array Value) (hy : y.toList.length = size) (hone : ∀ u ∈ y.toList, u.oneCell' = true) (hl : n ≤ 1000000) (hB : B ≤ w.heap.size) (ty : TypeId) :
    ∃ v' w', (Builtin.append_ #[t, t] ty #[v, .slice (some ⟨w.heap.size, 0, none⟩) 1 1]).run Tryz.prog (w.alloc (.cells y e)) = .ok v' w' ∧ OwnA B e size w' v' (n + 1) (xs ++ y.toList) ∧ w.grownBy w' v.ownBlock ∧ (∀ b, v'.ownBlock = some b → v.ownBlock = some b ∨ w.heap.size ≤ b) := by
  obtain ⟨i0, hi, hz0, hz1, hz2⟩ := info_parts E.info
  have hpos := E.pos
  have hnews : ∀ j u, y.toList[j]? = some u → (w.alloc (.cells y e)).cell? ((⟨w.heap.size, 0, none⟩ : Addr).add j) = some u := by
    have := cells_new w y.toList e
    simpa using this
  rcases h.2 with ⟨hv, h0⟩ | ⟨g, o, cap, cur, hv, hg, hh, hn, hm, hs, hc⟩
  · subst h0
    have hxs : xs = [] := List.eq_nil_of_length_eq_zero (by rw [h.1]; omega)
    subst hxs hv
    have hown : (w.alloc (.cells y e)).ownsRow B e size (.slice none 0 0) 0 [] := ⟨by simp, .inl ⟨rfl, rfl⟩⟩
    obtain ⟨v', w', h1, h2, h3, _⟩ := run_append_own (P := Tryz.prog) (w.alloc (.cells y e)) B t ty e i0 zv size bytes E.under hi hz0 hz1 hz2 E.cells E.pos (.slice none 0 0) 0 [] hown ⟨w.heap.size, 0, none⟩ 1 1 y.toList (by rw [hy]; omega) hnews hone (by unfold maxLen; omega)
      (Nat.le_trans (Nat.mul_le_mul (by omega : 0 + 1 ≤ 1) E.small) (by decide)) (by simp; omega)
    refine ⟨v', w', h1, OwnA.of_own h2, ⟨h3.os, h3.tape, h3.output, Nat.le_trans (by simp) h3.size, fun k hk hne => (h3.block k (by simp; omega) hne).trans (Below.heap_alloc _ _ _ hk)⟩, fun b hb => .inr ?_⟩
    have hgrown := h3
    by_cases hlt : b < w.heap.size
    · exfalso
      rcases h2.2 with ⟨_, h0⟩ | ⟨g', cap', cur', hv', hB', hh', hn', hm', hs', ht'⟩
      · omega
      · obtain ⟨v2, w2, k1, k2, k3⟩ := run_append_own (P := Tryz.prog) (w.alloc (.cells y e)) (w.heap.size + 1) t ty e i0 zv size bytes E.under hi hz0 hz1 hz2 E.cells E.pos (.slice none 0 0) 0 [] ⟨by simp, .inl ⟨rfl, rfl⟩⟩ ⟨w.heap.size, 0, none⟩ 1 1 y.toList (by rw [hy]; omega) hnews hone (by unfold maxLen; omega)
          (Nat.le_trans (Nat.mul_le_mul (by omega : 0 + 1 ≤ 1) E.small) (by decide)) (by simp)
        rw [h1] at k1
        injection k1 with k1 _
        subst k1
        have := (k2.lt b hb).1
        omega
    · omega
  · subst hv
    have hgs := lt_of_block hh
    have hha : (w.alloc (.cells y e)).heap[g]? = some (.cells cur e (0, 0)) := (Below.heap_alloc w _ g hgs).trans hh
    by_cases hroom : n + 1 ≤ cap
    · have hnz : n * size + size ≤ cap * size := by rw [← Nat.succ_mul]; exact Nat.mul_le_mul_right _ hroom
      have hr := run_append_room_cells (P := Tryz.prog) (w.alloc (.cells y e)) t ty e i0 E.under hi g o n cap ⟨w.heap.size, 0, none⟩ 1 1 y.toList (by rw [hz1, hy]; omega) hnews hone hroom
        (fun j hj => by
          rw [hz1, cell_of_row _ g _ cur _ (0, 0) hha, Array.getElem?_eq_getElem (by omega)]; rfl)
        (fun j hj => frozen_of_row _ g _ cur _ hha)
      rw [hz1] at hr
      obtain ⟨cur', k1, k2, k3, k4⟩ := setCells_block g e y.toList (o + n * size) (w.alloc (.cells y e)) cur hha
      obtain ⟨f1, f2, f3, f4, f5⟩ := setCells_frame g y.toList (o + n * size) (w.alloc (.cells y e))
      refine ⟨_, _, hr, ⟨by rw [List.length_append, h.1, hy, Nat.succ_mul], .inr ⟨g, o, cap, cur', rfl, hg, k1, hroom, hm, by rw [k2]; exact hs, fun j hj => ?_⟩⟩, ⟨f1, f2, f3, by rw [f4]; simp, fun i hi hne => (f5 i (fun e => hne (by rw [e]; rfl))).trans (Below.heap_alloc w _ i hi)⟩, fun b hb => .inl hb⟩
      by_cases hjl : j < xs.length
      · rw [List.getElem_append_left hjl, k4 _ (by rw [h.1] at hjl; omega)]
        exact hc j hjl
      · rw [List.length_append] at hj
        have hx := h.1
        have e1 : o + n * size + (j - xs.length) = o + j := by omega
        have k := k3 (j - xs.length) (by omega) (by omega)
        rw [e1] at k
        rw [List.getElem_append_right (by omega), k]
    · obtain ⟨v', w', hr, hown, hgr⟩ := run_append_arg_grows (P := Tryz.prog) (w.alloc (.cells y e)) t ty e i0 zv size bytes E.under hi hz0 hz1 hz2 E.cells E.pos ⟨g, o, none⟩ n cap xs h.1
        (fun j u hj => by
          obtain ⟨hj1, hj2⟩ := List.getElem?_eq_some_iff.1 hj
          rw [add_addr, cell_of_row _ g _ cur _ (0, 0) hha, hc j hj1, hj2])
        ⟨w.heap.size, 0, none⟩ 1 1 y.toList (by rw [hy]; omega) hnews (by omega) (by unfold maxLen; omega) (Nat.le_trans (Nat.mul_le_mul (by omega : n + 1 ≤ 1000001) E.small) (by decide))
      refine ⟨v', w', hr, OwnA.base (OwnA.of_own hown) (by simp; omega), ⟨hgr.os, hgr.tape, hgr.output, Nat.le_trans (by simp) hgr.size, fun i hi hne => (hgr.block i (by simp; omega) (by simp)).trans (Below.heap_alloc w _ i hi)⟩, fun b hb => .inr ?_⟩
      have := (hown.lt b hb).1
      simp at this
      omega

/-- Traces of the call's own: their row, and their inputs, no two in one block. -/
def OwnT (B : Nat) (w : World) (v : Value) (sl : List Value) (l : List TrT) : Prop :=
  sl.length = l.length ∧ OwnA B 80 4 w v l.length (TC sl l) ∧ ListsS B w (sl.zip (l.map (·.2.1)))
theorem zip_getS {sl : List Value} {l : List TrT} {k : Nat} (h1 : k < sl.length) (h2 : k < l.length) : (sl[k], l[k].2.1) ∈ sl.zip (l.map (·.2.1)) := by
  rw [List.mem_iff_getElem]
  exact ⟨k, by simp; omega, by simp⟩
theorem OwnT.view {B : Nat} {w : World} {v : Value} {sl : List Value} {l : List TrT} (h : OwnT B w v sl l) : RowT w v l :=
  ⟨sl, h.1, h.2.1.row, fun _ h1 h2 => RowV.of_own (h.2.2.1 _ (zip_getS h1 h2))⟩
theorem OwnT.below {B : Nat} {w w' : World} {v : Value} {sl : List Value} {l : List TrT} (h : OwnT B w v sl l) (hb : Below w.heap.size w w') : OwnT B w' v sl l := ⟨h.1, h.2.1.below hb, h.2.2.below hb⟩
theorem OwnT.base {B B' : Nat} {w : World} {v : Value} {sl : List Value} {l : List TrT} (h : OwnT B w v sl l) (hB : B' ≤ B) : OwnT B' w v sl l := ⟨h.1, h.2.1.base hB, h.2.2.base hB⟩
theorem OwnT.set_below {B : Nat} {w : World} {v : Value} {sl : List Value} {l : List TrT} (h : OwnT B w v sl l) {p : Addr} (hp : p.block < B) (u : Value) : OwnT B (w.setCell p u) v sl l := ⟨h.1, h.2.1.set_below hp u, h.2.2.set hp u⟩
theorem OwnT.empty (B : Nat) (w : World) : OwnT B w (.slice none 0 0) [] [] := ⟨rfl, OwnA.empty B _ 4 w, by simp [ListsS]⟩
/-- Traces of the call's own, their inputs wherever they lie. -/
def OwnW (B : Nat) (w : World) (v : Value) (l : List TrT) : Prop :=
  ∃ sl : List Value, sl.length = l.length ∧ w.ownsRow B 80 4 v l.length (TC sl l) ∧ ∀ k (h1 : k < sl.length) (h2 : k < l.length), w.ownsRow 0 9 1 sl[k] l[k].2.1.length (S l[k].2.1)
theorem OwnW.view {B : Nat} {w : World} {v : Value} {l : List TrT} (h : OwnW B w v l) : RowT w v l := by
  obtain ⟨sl, h1, h2, h3⟩ := h
  exact ⟨sl, h1, RowG.of_own h2, fun k a b => RowV.of_own (h3 k a b)⟩
theorem OwnW.below {B : Nat} {w w' : World} {v : Value} {l : List TrT} (h : OwnW B w v l) (hb : Below w.heap.size w w') : OwnW B w' v l := by
  obtain ⟨sl, h1, h2, h3⟩ := h
  exact ⟨sl, h1, own_belowG h2 hb, fun k a b => own_below (h3 k a b) hb⟩
theorem OwnW.base {B B' : Nat} {w : World} {v : Value} {l : List TrT} (h : OwnW B w v l) (hB : B' ≤ B) : OwnW B' w v l := by
  obtain ⟨sl, h1, h2, h3⟩ := h
  exact ⟨sl, h1, own_baseG h2 hB, h3⟩
end Go.Proofs.YtgolhfmmlanmlaaGreatDoor
